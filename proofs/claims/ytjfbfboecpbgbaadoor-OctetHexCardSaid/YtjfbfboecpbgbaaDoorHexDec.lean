/-
  Bytes out of digits; no program stands here.
-/
import Derived.Test.YtjfbfboecpbgbaaDoorDec
namespace Go.Proofs.YtjfbfboecpbgbaaDoor

def isHex (c : UInt8) : Prop := 0 ≤ digitOf c
instance (c : UInt8) : Decidable (isHex c) := inferInstanceAs (Decidable (0 ≤ digitOf c))
def pairB (a b : UInt8) : UInt8 := UInt8.ofNat (16 * (digitOf a).toNat + (digitOf b).toNat)
/-- The byte of two signs, if they are digits. -/
def pairL (a b : UInt8) : List UInt8 := if isHex a ∧ isHex b then [pairB a b] else []
/-- Which bytes digits say. -/
def unhexL : List UInt8 → Option (List UInt8)
  | [] => some []
  | [_] => none
  | a :: b :: r => if isHex a ∧ isHex b then (unhexL r).map (pairB a b :: ·) else none
/-- The bytes of all pairs that are digits. -/
def scanL : List UInt8 → List UInt8
  | a :: b :: r => pairL a b ++ scanL r
  | _ => []

theorem hex_range {c : UInt8} (h : isHex c) : (digitOf c).toNat < 16 ∧ dg (digitOf c).toNat = c := by
  unfold isHex at h
  rcases digitOf_range c with h1 | ⟨_, h2, h3⟩
  · omega
  · exact ⟨by omega, h3⟩
theorem pairB_toNat {a b : UInt8} (ha : isHex a) (hb : isHex b) : (pairB a b).toNat = 16 * (digitOf a).toNat + (digitOf b).toNat := by
  have h1 := (hex_range ha).1
  have h2 := (hex_range hb).1
  unfold pairB
  rw [UInt8.toNat_ofNat', Nat.mod_eq_of_lt (by omega)]
theorem hexL_pair {a b : UInt8} (ha : isHex a) (hb : isHex b) : hexL [pairB a b] = [a, b] := by
  obtain ⟨h1, h2⟩ := hex_range ha
  obtain ⟨h3, h4⟩ := hex_range hb
  have e := pairB_toNat ha hb
  have e1 : (pairB a b).toNat / 16 = (digitOf a).toNat := by omega
  have e2 : (pairB a b).toNat % 16 = (digitOf b).toNat := by omega
  simp only [hexL, List.flatMap_cons, List.flatMap_nil, List.append_nil, e1, e2, h2, h4]
theorem isHex_dg {n : Nat} (h : n < 16) : isHex (dg n) := by
  unfold isHex
  rw [digitOf_dg n h]; omega
theorem pairB_dg (x : UInt8) : pairB (dg (x.toNat / 16)) (dg (x.toNat % 16)) = x := by
  have h := x.toNat_lt
  apply UInt8.toNat_inj.1
  rw [pairB_toNat (isHex_dg (by omega)) (isHex_dg (by omega)), digitOf_dg _ (by omega), digitOf_dg _ (by omega)]
  omega
theorem unhexL_hexL : ∀ l : List UInt8, unhexL (hexL l) = some l
  | [] => rfl
  | b :: l => by
    have h := b.toNat_lt
    rw [hexL_cons]
    unfold unhexL
    rw [if_pos ⟨isHex_dg (by omega), isHex_dg (by omega)⟩, unhexL_hexL l, pairB_dg]
    rfl
theorem unhexL_some : ∀ (l m : List UInt8), unhexL l = some m → hexL m = l ∧ scanL l = m
  | [], m, h => by
    cases h
    exact ⟨rfl, rfl⟩
  | [_], m, h => by cases h
  | a :: b :: r, m, h => by
    unfold unhexL at h
    by_cases hd : isHex a ∧ isHex b
    · rw [if_pos hd] at h
      obtain ⟨m', hm', rfl⟩ := Option.map_eq_some_iff.1 h
      obtain ⟨h1, h2⟩ := unhexL_some r m' hm'
      have h3 := hexL_pair hd.1 hd.2
      have h4 : hexL (pairB a b :: m') = hexL [pairB a b] ++ hexL m' := by simp [hexL]
      refine ⟨by rw [h4, h3, h1]; rfl, ?_⟩
      unfold scanL pairL
      rw [if_pos hd, h2]; rfl
    · rw [if_neg hd] at h
      cases h
/-- What is written again as it was is what digits say. -/
theorem unhexL_is (l : List UInt8) : unhexL l = if hexL (scanL l) = l then some (scanL l) else none := by
  by_cases h : hexL (scanL l) = l
  · rw [if_pos h]
    have := unhexL_hexL (scanL l)
    rwa [h] at this
  · rw [if_neg h]
    cases hs : unhexL l with
    | none => rfl
    | some m =>
      obtain ⟨h1, h2⟩ := unhexL_some l m hs
      rw [h2] at h
      exact absurd h1 h
theorem unhexL_odd : ∀ l : List UInt8, l.length % 2 ≠ 0 → unhexL l = none
  | [], h => by simp at h
  | [_], _ => rfl
  | a :: b :: r, h => by
    unfold unhexL
    have := unhexL_odd r (by simp at h; omega)
    rw [this]
    split <;> rfl
theorem drop_two {l : List UInt8} {i : Nat} (h : i + 1 < l.length) : l.drop i = l.getD i 0 :: l.getD (i + 1) 0 :: l.drop (i + 2) := by
  have h1 : i < l.length := by omega
  rw [List.drop_eq_getElem_cons h1, List.drop_eq_getElem_cons h]
  simp [List.getD, h1, h]
theorem unhexL_cons (a b : UInt8) (r : List UInt8) : unhexL (a :: b :: r) = if isHex a ∧ isHex b then (unhexL r).map (pairB a b :: ·) else none := rfl
theorem unhexL_step {l out : List UInt8} {i : Nat} (h : i + 1 < l.length) (hr : unhexL l = (unhexL (l.drop i)).map (out ++ ·)) (ha : isHex (l.getD i 0)) (hb : isHex (l.getD (i + 1) 0)) :
    unhexL l = (unhexL (l.drop (i + 2))).map ((out ++ [pairB (l.getD i 0) (l.getD (i + 1) 0)]) ++ ·) := by
  rw [hr, drop_two h, unhexL_cons, if_pos ⟨ha, hb⟩]
  simp only [Option.map_map]
  congr 1
  funext x
  simp
theorem unhexL_bad {l out : List UInt8} {i : Nat} (h : i + 1 < l.length) (hr : unhexL l = (unhexL (l.drop i)).map (out ++ ·)) (hn : ¬ (isHex (l.getD i 0) ∧ isHex (l.getD (i + 1) 0))) : unhexL l = none := by
  rw [hr, drop_two h, unhexL_cons, if_neg hn]; rfl
theorem scanL_step {l out : List UInt8} {i : Nat} (h : i + 1 < l.length) (hr : scanL l = out ++ scanL (l.drop i)) : scanL l = (out ++ pairL (l.getD i 0) (l.getD (i + 1) 0)) ++ scanL (l.drop (i + 2)) := by
  rw [hr, drop_two h]
  simp [scanL]
theorem scanL_end {l out : List UInt8} {i : Nat} (h : ¬ i + 1 < l.length) (hr : scanL l = out ++ scanL (l.drop i)) : scanL l = out := by
  have h1 : (l.drop i).length ≤ 1 := by simp; omega
  rw [hr]
  match hd : l.drop i, h1 with
  | [], _ => simp [scanL]
  | [_], _ => simp [scanL]
/-- The pair's byte, as soon as it is below k. -/
def pairUpto (a b : UInt8) (k : Nat) : List UInt8 := if isHex a ∧ isHex b ∧ (pairB a b).toNat < k then [pairB a b] else []
theorem pairUpto_zero (a b : UInt8) : pairUpto a b 0 = [] := by unfold pairUpto; rw [if_neg (by omega)]
theorem pairUpto_all (a b : UInt8) : pairUpto a b 256 = pairL a b := by
  have := (pairB a b).toNat_lt
  unfold pairUpto pairL
  by_cases h : isHex a ∧ isHex b
  · rw [if_pos ⟨h.1, h.2, by omega⟩, if_pos h]
  · rw [if_neg (fun e => h ⟨e.1, e.2.1⟩), if_neg h]
theorem pairUpto_step (a b : UInt8) (k : Nat) (hk : k < 256) :
    (hexL [UInt8.ofNat k] = [a, b] → pairUpto a b (k + 1) = pairUpto a b k ++ [UInt8.ofNat k]) ∧ (hexL [UInt8.ofNat k] ≠ [a, b] → pairUpto a b (k + 1) = pairUpto a b k) := by
  have hkk : (UInt8.ofNat k).toNat = k := by rw [UInt8.toNat_ofNat', Nat.mod_eq_of_lt hk]
  constructor
  · intro h
    have h1 : [dg (k / 16), dg (k % 16)] = [a, b] := by
      have h2 : hexL [UInt8.ofNat k] = [dg (k / 16), dg (k % 16)] := by simp [hexL, hkk]
      rw [← h2]; exact h
    simp only [List.cons.injEq, and_true] at h1
    obtain ⟨rfl, rfl⟩ := h1
    have h3 : pairB (dg (k / 16)) (dg (k % 16)) = UInt8.ofNat k := by
      have := pairB_dg (UInt8.ofNat k)
      rwa [hkk] at this
    unfold pairUpto
    rw [h3, hkk, if_pos ⟨isHex_dg (by omega), isHex_dg (by omega), by omega⟩, if_neg (by omega)]
    rfl
  · intro h
    unfold pairUpto
    by_cases hd : isHex a ∧ isHex b
    · have hne : (pairB a b).toNat ≠ k := by
        intro e
        apply h
        have h5 : UInt8.ofNat k = pairB a b := UInt8.toNat_inj.1 (by rw [hkk, e])
        rw [h5]
        exact hexL_pair hd.1 hd.2
      by_cases hlt : (pairB a b).toNat < k
      · rw [if_pos ⟨hd.1, hd.2, by omega⟩, if_pos ⟨hd.1, hd.2, hlt⟩]
      · rw [if_neg (fun e => by omega), if_neg (fun e => by omega)]
    · rw [if_neg (fun e => hd ⟨e.1, e.2.1⟩), if_neg (fun e => hd ⟨e.1, e.2.1⟩)]
end Go.Proofs.YtjfbfboecpbgbaaDoor

/-
  What a session does, by a table: the table as numbers, and as texts.
-/
namespace Go.Proofs.YthjnbjhdepfclaaDoor

/-- A cell for each event and state: the next state, and behind it twelve bits of deeds. -/
def tabL : List Nat := [4225, 4096, 8192, 12288, 16384, 20480, 0, 2050, 2050, 2066, 2066, 2130, 2, 14596, 14596, 12288, 16384, 20480, 0, 8320, 2050, 10368, 2048, 2112, 0, 4225, 4225, 2066, 2066, 2130, 0, 2050, 2050, 2066, 2066, 2130, 0, 2050, 2050, 2066, 17416, 21512, 0, 2050, 2050, 17928, 2066, 2130, 0, 2050, 2050, 2066, 2066, 2130, 0, 2050, 2050, 2066, 2066, 2130, 0, 2050, 2050, 2066, 2066, 2130, 0, 2050, 2050, 2050, 2050, 2114, 0, 2050, 2050, 2066, 21024, 20992, 0, 2050, 2050, 2066, 2066, 20992, 0, 2050, 2050, 2066, 2066, 2130, 0, 2050, 2050, 2066, 2066, 2130]
/-- The same as texts. -/
def textL : List (List UInt8) := [[49, 32, 68, 114], [49], [50], [51], [52], [53], [48], [48, 32, 72, 120], [48, 32, 72, 120], [48, 32, 78, 72, 120], [48, 32, 78, 72, 120], [48, 32, 78, 72, 120, 70], [48, 32, 72], [51, 32, 120, 79, 76], [51, 32, 120, 79, 76], [51], [52], [53], [48], [50, 32, 114], [48, 32, 72, 120], [50, 32, 120, 114], [48, 32, 120], [48, 32, 120, 70], [48], [49, 32, 68, 114], [49, 32, 68, 114], [48, 32, 78, 72, 120], [48, 32, 78, 72, 120], [48, 32, 78, 72, 120, 70], [48], [48, 32, 72, 120], [48, 32, 72, 120], [48, 32, 78, 72, 120], [48, 32, 78, 72, 120], [48, 32, 78, 72, 120, 70], [48], [48, 32, 72, 120], [48, 32, 72, 120], [48, 32, 78, 72, 120], [52, 32, 75, 107], [53, 32, 75, 107], [48], [48, 32, 72, 120], [48, 32, 72, 120], [52, 32, 75, 104, 107], [48, 32, 78, 72, 120], [48, 32, 78, 72, 120, 70], [48], [48, 32, 72, 120], [48, 32, 72, 120], [48, 32, 78, 72, 120], [48, 32, 78, 72, 120], [48, 32, 78, 72, 120, 70], [48], [48, 32, 72, 120], [48, 32, 72, 120], [48, 32, 78, 72, 120], [48, 32, 78, 72, 120], [48, 32, 78, 72, 120, 70], [48], [48, 32, 72, 120], [48, 32, 72, 120], [48, 32, 78, 72, 120], [48, 32, 78, 72, 120], [48, 32, 78, 72, 120, 70], [48], [48, 32, 72, 120], [48, 32, 72, 120], [48, 32, 72, 120], [48, 32, 72, 120], [48, 32, 72, 120, 70], [48], [48, 32, 72, 120], [48, 32, 72, 120], [48, 32, 78, 72, 120], [53, 32, 104, 82], [53, 32, 104], [48], [48, 32, 72, 120], [48, 32, 72, 120], [48, 32, 78, 72, 120], [48, 32, 78, 72, 120], [53, 32, 104], [48], [48, 32, 72, 120], [48, 32, 72, 120], [48, 32, 78, 72, 120], [48, 32, 78, 72, 120], [48, 32, 78, 72, 120, 70], [48], [48, 32, 72, 120], [48, 32, 72, 120], [48, 32, 78, 72, 120], [48, 32, 78, 72, 120], [48, 32, 78, 72, 120, 70]]
def nameL : List (List UInt8) := [[105, 100, 108, 101], [99, 111, 110, 110, 101, 99, 116], [97, 99, 116, 105, 118, 101], [111, 112, 101, 110, 115, 101, 110, 116], [111, 112, 101, 110, 99, 111, 110, 102, 105, 114, 109], [101, 115, 116, 97, 98, 108, 105, 115, 104, 101, 100]]
def tabN (e s : Nat) : Nat := tabL.getD (e * 6 + s) 0
def toN (e s : Nat) : Nat := tabN e s / 4096
def deN (e s : Nat) : Nat := tabN e s % 4096
def textOf (e s : Nat) : List UInt8 := textL.getD (e * 6 + s) []
def nameOf (s : Nat) : List UInt8 := nameL.getD s []
def bitN (c : Nat) : Nat := if c = 68 then 1 else if c = 72 then 2 else if c = 79 then 4 else if c = 75 then 8 else if c = 78 then 16 else if c = 82 then 32 else if c = 70 then 64 else if c = 114 then 128 else if c = 76 then 256 else if c = 104 then 512 else if c = 107 then 1024 else if c = 120 then 2048 else 0
def sumTo (l : List UInt8) (i : Nat) : Nat := (((l.take i).drop 1).map fun c => bitN c.toNat).sum
theorem bitN_le (c : Nat) : bitN c ≤ 2048 := by
  unfold bitN
  repeat (split; omega)
  omega
theorem sum_step {l : List UInt8} {i : Nat} {c : UInt8} (hi : 1 ≤ i) (h : l[i]? = some c) : sumTo l (i + 1) = sumTo l i + bitN c.toNat := by
  obtain ⟨h1, h2⟩ := List.getElem?_eq_some_iff.1 h
  unfold sumTo
  rw [List.take_succ_eq_append_getElem h1, h2, List.drop_append_of_le_length (by simp; omega)]
  simp
theorem sum_one (l : List UInt8) : sumTo l 1 = 0 := by
  unfold sumTo
  rcases l with _ | ⟨a, l⟩ <;> simp
theorem sum_le (l : List UInt8) (i : Nat) : sumTo l i ≤ 2048 * i := by
  unfold sumTo
  have h : ∀ m : List UInt8, (m.map fun c => bitN c.toNat).sum ≤ 2048 * m.length := by
    intro m
    induction m with
    | nil => simp
    | cons c m ih =>
      have := bitN_le c.toNat
      simp only [List.map_cons, List.sum_cons, List.length_cons]
      omega
  refine Nat.le_trans (h _) ?_
  simp
  omega
/-- A text says the cell. -/
def cellOk (e s : Nat) : Bool := decide (1 ≤ (textOf e s).length) && decide ((textOf e s).length ≤ 8) && decide (((textOf e s).getD 0 0).toNat = 48 + toN e s) && decide (sumTo (textOf e s) (textOf e s).length = deN e s) && decide (tabN e s < 65536)
theorem cells_ok : ((List.range 16).all fun e => (List.range 6).all fun s => cellOk e s) = true := by decide +kernel
theorem cell_ok {e s : Nat} (he : e < 16) (hs : s < 6) : 1 ≤ (textOf e s).length ∧ (textOf e s).length ≤ 8 ∧ ((textOf e s).getD 0 0).toNat = 48 + toN e s ∧ sumTo (textOf e s) (textOf e s).length = deN e s ∧ tabN e s < 65536 := by
  have h := List.all_eq_true.1 (List.all_eq_true.1 cells_ok e (List.mem_range.2 he)) s (List.mem_range.2 hs)
  unfold cellOk at h
  simp only [Bool.and_eq_true, decide_eq_true_eq] at h
  exact ⟨h.1.1.1.1, h.1.1.1.2, h.1.1.2, h.1.2, h.2⟩
end Go.Proofs.YthjnbjhdepfclaaDoor

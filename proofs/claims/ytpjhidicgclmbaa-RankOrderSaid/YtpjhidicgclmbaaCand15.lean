/-
  Candidates in memory.
-/
import Derived.Test.YtpjhidicgclmbaaCnt
import Derived.Test.YtpjhidicgclmbaaRefP15
namespace Go.Proofs.Ytpjhidicgclmbaa
set_option linter.unusedVariables false
set_option linter.unusedSimpArgs false
open Go.RowKit

/-- A candidate as it lies in memory: 16 cells. -/
structure Cv where
  peer : Int
  ext : Bool
  near : Int
  id : Int
  addr : Int
  org : Int
  pathA : Option Addr
  pathC : Nat
  path : List Sg
  next : Int
  med : Int
  pref : Int
  atomic : Bool
  has : Bool
  aas : Int
  aad : Int
  commsA : Option Addr
  commsN : Nat
  commsC : Nat
  rawsA : Option Addr
  rawsN : Nat
  rawsC : Nat
def Cv.row (c : Cv) : List Value := [.int .i64 c.peer, .bool c.ext, .int .u32 c.near, .int .u32 c.id, .int .u32 c.addr, .int .i64 c.org, .slice c.pathA c.path.length c.pathC, .int .u32 c.next, .int .i64 c.med, .int .i64 c.pref, .bool c.atomic, .bool c.has, .int .u32 c.aas, .int .u32 c.aad, .slice c.commsA c.commsN c.commsC, .slice c.rawsA c.rawsN c.rawsC]
def Cv.agg (c : Cv) : Value := .agg c.row.toArray
/-- What a candidate leads to lies below B; its numbers are such as their types have. -/
structure Cv.In (w : World) (B : Nat) (c : Cv) : Prop where
  path : Segs w B c.pathA c.path
  pathC : c.path.length ≤ c.pathC ∧ c.pathC ≤ maxLen
  near : 0 ≤ c.near ∧ c.near ≤ 4294967295
  id : 0 ≤ c.id ∧ c.id ≤ 4294967295
  addr : 0 ≤ c.addr ∧ c.addr ≤ 4294967295
  peer : -9223372036854775808 ≤ c.peer ∧ c.peer ≤ 9223372036854775807
  org : -9223372036854775808 ≤ c.org ∧ c.org ≤ 9223372036854775807
  med : -9223372036854775808 ≤ c.med ∧ c.med ≤ 9223372036854775807
  pref : -9223372036854775808 ≤ c.pref ∧ c.pref ≤ 9223372036854775807
section
variable {w w' : World} {B B' : Nat} {c : Cv}
theorem Cv.In.below (h : c.In w B) (hb : Below B' w w') (hB : B ≤ B') : c.In w' B :=
  ⟨h.path.below hb hB, h.pathC, h.near, h.id, h.addr, h.peer, h.org, h.med, h.pref⟩
theorem Cv.In.lift (h : c.In w B) (hB : B ≤ B') : c.In w B' :=
  ⟨h.path.lift hB, h.pathC, h.near, h.id, h.addr, h.peer, h.org, h.med, h.pref⟩
/-- Nothing that was there has turned. -/
theorem Cv.In.go (h : c.In w w.heap.size) (hb : Below w.heap.size w w') : c.In w' w'.heap.size := (h.below hb (Nat.le_refl _)).lift hb.size
end
/-- The slice's address A leads to the candidates L, in a block below B, and so does what they lead to. -/
def CandsIn (w : World) (B : Nat) (A : Option Addr) (L : List Cv) : Prop :=
  L ≠ [] → ∃ b off, A = some ⟨b, off, none⟩ ∧ b < B ∧ ∀ (j : Nat) (s : Cv), L[j]? = some s →
    (∀ i u, s.row[i]? = some u → w.cell? ⟨b, off + j * 16 + i, none⟩ = some u) ∧ s.In w B
theorem CandsIn.nil (w : World) (B : Nat) (A : Option Addr) : CandsIn w B A [] := fun h => absurd rfl h
section
variable {w w' : World} {B B' : Nat} {A : Option Addr} {L : List Cv}
theorem CandsIn.below (h : CandsIn w B A L) (hb : Below B' w w') (hB : B ≤ B') : CandsIn w' B A L := by
  intro hl
  obtain ⟨b, off, rfl, hlt, hc⟩ := h hl
  refine ⟨b, off, rfl, hlt, fun j s hj => ?_⟩
  obtain ⟨h1, h2⟩ := hc j s hj
  exact ⟨fun i u hu => (hb.cell (p := ⟨b, off + j * 16 + i, none⟩) (Nat.lt_of_lt_of_le hlt hB)).trans (h1 i u hu), h2.below hb hB⟩
theorem CandsIn.lift (h : CandsIn w B A L) (hB : B ≤ B') : CandsIn w B' A L := fun hl => by
  obtain ⟨b, off, rfl, hlt, hc⟩ := h hl
  exact ⟨b, off, rfl, Nat.lt_of_lt_of_le hlt hB, fun j s hj => ⟨(hc j s hj).1, (hc j s hj).2.lift hB⟩⟩
theorem CandsIn.go (h : CandsIn w w.heap.size A L) (hb : Below w.heap.size w w') : CandsIn w' w'.heap.size A L := (h.below hb (Nat.le_refl _)).lift hb.size
theorem CandsIn.at (h : CandsIn w B A L) {j : Nat} {s : Cv} (hj : L[j]? = some s) : ∃ b off, A = some ⟨b, off, none⟩ ∧ b < B ∧
    (∀ i u, s.row[i]? = some u → w.cell? ⟨b, off + j * 16 + i, none⟩ = some u) ∧ s.In w B := by
  obtain ⟨b, off, hA, hlt, hc⟩ := h (by intro e; subst e; simp at hj)
  exact ⟨b, off, hA, hlt, (hc j s hj).1, (hc j s hj).2⟩
end

/-- How much a route is preferred. -/
def prefN (c : Cv) : Int := if c.pref < 0 then 100 else c.pref
def medN (c : Cv) : Int := max c.med 0
/-- What a candidate is held against others by. -/
def keyOf (c : Cv) (z : Int) : Rn := { near := c.near, p := -(prefN c), c := (cntN c.path : Nat), o := c.org, m := medN c, e := if c.ext then 0 else 1, i := c.id, a := c.addr, r := c.peer, z := z }
/-- How many numbers a candidate's path may have. -/
def CntOk (c : Cv) : Prop := totN c.path + c.path.length ≤ 1152921504606846976
end Go.Proofs.Ytpjhidicgclmbaa

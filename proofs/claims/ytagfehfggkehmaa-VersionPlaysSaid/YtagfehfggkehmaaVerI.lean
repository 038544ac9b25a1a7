/-
  A store of versions (of int) in memory: its struct, and its map.
-/
import Derived.Test.YtagfehfggkehmaaBase
import Derived.Test.YtagfehfggkehmaaSeat
import Derived.Test.YtagfehfggkehmaaVer
namespace Go.Proofs.Ytagfehfggkehmaa
set_option linter.unusedVariables false
set_option linter.unusedSimpArgs false
open Go.RowKit Go.Maps

/-- How a version that is live reads: what it is, and how often it is pinned. -/
def rKI : Value → Option (DataW Unit × List MemPlace)
  | .agg cs => match cs.toList with
    | [.int .i64 x, .int .i64 p] => some (.agg [.lit (.int .i64 x), .lit (.int .i64 p)], [])
    | _ => none
  | _ => none
def dI (v : Int × Int) : DataW Unit := .agg [.lit (.int .i64 v.1), .lit (.int .i64 v.2)]
theorem rKI_mk (v : Int × Int) : rKI (.agg #[.int .i64 v.1, .int .i64 v.2]) = some (dI v, []) := rfl
theorem rKI_inv {u : Value} {v : Int × Int} {ps : List MemPlace} (h : rKI u = some (dI v, ps)) : u = .agg #[.int .i64 v.1, .int .i64 v.2] := by
  unfold rKI at h
  split at h
  · rename_i cs
    split at h
    · rename_i x p hc
      obtain ⟨x', p'⟩ := v
      simp [dI] at h
      obtain ⟨⟨h1, h2⟩, _⟩ := h
      have hcs : cs = #[.int .i64 x, .int .i64 p] := by cases cs; simp_all
      subst h1
      subst h2
      rw [hcs]
    · cases h
  · cases h

theorem zeroI (w : World) : (zeroValue 49).run Try.prog w = .ok (.agg #[.int .i64 0, .int .i64 0]) w := by kernel_rfl
theorem lawI : Keyed Try.prog 3 := int_keyed Try.underlying3

/-- Block b is a map of at most n entries: at k stands F k; there are c. -/
def MapI (w : World) (b n : Nat) (F : Int → Option (Int × Int)) (c : Nat) : Prop :=
  ∃ D : DataW Unit, w.ownsMap Try.prog 3 rKI b n D ∧ (∀ k : Int, Maps.has D (.int .i64 k) = (F k).isSome) ∧ (∀ (k : Int) v, F k = some v → ∀ zd, D.atKey (.int .i64 k) zd = dI v) ∧ Maps.size D = c

section
variable {w w' : World} {b n c : Nat} {F : Int → Option (Int × Int)}
theorem MapI.made (w : World) : MapI (w.alloc (.map #[] 0)) w.heap.size 0 (fun _ => none) 0 :=
  ⟨_, World.ownsMap_made w _ _ _, fun k => rfl, fun k v h => (by cases h), rfl⟩
theorem MapI.lt (h : MapI w b n F c) : b < w.heap.size := by obtain ⟨D, ho, _⟩ := h; exact ho.lt
theorem MapI.mono (h : MapI w b n F c) {n' : Nat} (hn : n ≤ n') : MapI w b n' F c := by obtain ⟨D, ho, r⟩ := h; exact ⟨D, ho.mono hn, r⟩
theorem MapI.drew (h : MapI w b n F c) : MapI w.drew b n F c := h
theorem MapI.drewN (h : MapI w b n F c) (m : Nat) : MapI (w.drewN m) b n F c := h
theorem MapI.block (h : MapI w b n F c) (hb : w'.heap[b]? = w.heap[b]?) : MapI w' b n F c := by
  obtain ⟨D, ⟨es, clock, hes, r⟩, q⟩ := h
  exact ⟨D, ⟨es, clock, hb.trans hes, r⟩, q⟩
theorem MapI.below {B : Nat} (h : MapI w b n F c) (hb : Below B w w') (hB : b < B) : MapI w' b n F c := h.block (hb.block b hB)
theorem MapI.look (h : MapI w b n F c) (q : Bool) {k : Int} (hk : (Lit.int .i64 k).wf = true) :
    (Instr.lookup 43 (.map (some b)) (.int .i64 k) q).run Try.prog w = .ok (if q then .tuple #[.agg #[.int .i64 (((F k).getD (0, 0)).1), .int .i64 ((F k).getD (0, 0)).2], .bool (F k).isSome] else .agg #[.int .i64 (((F k).getD (0, 0)).1), .int .i64 ((F k).getD (0, 0)).2]) w := by
  obtain ⟨D, ho, hh, ha, _⟩ := h
  have hkey := keyOf_int_mk (P := Try.prog) Try.underlying3 hk
  have hd : D.atKey (.int .i64 k) (dI (0, 0)) = dI ((F k).getD (0, 0)) := by
    cases hF : F k with
    | none =>
      have h0 := hh k
      rw [hF] at h0
      rw [Maps.atKey_of_not_has h0]
      rfl
    | some v => rw [ha k v hF]; rfl
  cases q with
  | false =>
    obtain ⟨v, ps, hrun, hv⟩ := ho.lookup lawI Try.underlying43 (zeroI w) (rKI_mk (0, 0)) hkey
    rw [hd] at hv
    rw [hrun, rKI_inv hv]
    rfl
  | true =>
    obtain ⟨v, ps, hrun, hv⟩ := ho.look_ok lawI Try.underlying43 (zeroI w) (rKI_mk (0, 0)) hkey
    rw [hd] at hv
    rw [hrun, rKI_inv hv, hh k]
    rfl
theorem MapI.put (h : MapI w b n F c) (hn : n < maxLen) {k : Int} (hk : (Lit.int .i64 k).wf = true) (v : Int × Int) :
    ∃ w', (Instr.mapUpdate 43 (.map (some b)) (.int .i64 k) (.agg #[.int .i64 v.1, .int .i64 v.2])).run Try.prog w = .ok () w' ∧ MapI w' b (n + 1) (putF F k v) (putC F k c) ∧ w.mapTurned w' b := by
  obtain ⟨D, ho, hh, ha, hs⟩ := h
  have hkey := keyOf_int_mk (P := Try.prog) Try.underlying3 hk
  obtain ⟨w', hrun, ho', ht⟩ := ho.store lawI Try.underlying43 hn hkey (rKI_mk v)
  have hlit := lawI.key hkey
  refine ⟨w', hrun, ⟨_, ho', fun j => ?_, fun j u hu zd => ?_, ?_⟩, ht⟩
  · by_cases hj : j = k
    · subst hj
      rw [Maps.has_put_same ho.isMap hlit]; simp [putF]
    · rw [Maps.has_put_other (by simpa using hj), hh j]; simp [putF, hj]
  · by_cases hj : j = k
    · subst hj
      rw [Maps.atKey_put_same ho.isMap hlit]
      simp [putF] at hu
      rw [hu]
    · rw [Maps.atKey_put_other (by simpa using hj)]
      exact ha j u (by simpa [putF, hj] using hu) zd
  · rw [Maps.size_put (ho.tidy lawI), hh k, hs]; rfl
theorem MapI.del (h : MapI w b n F c) {k : Int} (hk : (Lit.int .i64 k).wf = true) (D : DataW Unit) (hh : ∀ k : Int, Maps.has D (.int .i64 k) = (F k).isSome) (ha : ∀ (k : Int) v, F k = some v → ∀ zd, D.atKey (.int .i64 k) zd = dI v) (hs : Maps.size D = c)
    (ho : w.ownsMap Try.prog 3 rKI b n D) (ho' : w'.ownsMap Try.prog 3 rKI b n (D.del (.int .i64 k))) : MapI w' b n (delF F k) (delC F k c) := by
  refine ⟨_, ho', fun j => ?_, fun j u hu zd => ?_, ?_⟩
  · by_cases hj : j = k
    · subst hj
      rw [Maps.has_del_same]; simp [delF]
    · rw [Maps.has_del_other (by simpa using hj), hh j]; simp [delF, hj]
  · by_cases hj : j = k
    · subst hj
      simp [delF] at hu
    · rw [Maps.atKey_del_other (by simpa using hj)]
      exact ha j u (by simpa [delF, hj] using hu) zd
  · have := Maps.size_del (k := .int .i64 k) (ho.tidy lawI)
    rw [hh k, hs] at this
    unfold delC
    omega
end

/-- Block g is a store: its head is h, its map lies in block b. -/
structure StI (w : World) (g b n : Nat) (h : Int) (F : Int → Option (Int × Int)) (c : Nat) : Prop where
  blk : Blk w g 45 [.int .i64 h, .map (some b)]
  map : MapI w b n F c
  ne : b ≠ g

section
variable {w w' : World} {g b n c : Nat} {h : Int} {F : Int → Option (Int × Int)}
theorem StI.drew (s : StI w g b n h F c) : StI w.drew g b n h F c := ⟨s.blk, s.map, s.ne⟩
theorem StI.drewN (s : StI w g b n h F c) (m : Nat) : StI (w.drewN m) g b n h F c := ⟨s.blk, s.map, s.ne⟩
theorem StI.lt (s : StI w g b n h F c) : g < w.heap.size ∧ b < w.heap.size := ⟨s.blk.lt, s.map.lt⟩
theorem StI.keep (s : StI w g b n h F c) (hg : w'.heap[g]? = w.heap[g]?) (hb : w'.heap[b]? = w.heap[b]?) : StI w' g b n h F c := ⟨hg.trans s.blk, s.map.block hb, s.ne⟩
theorem StI.below {B : Nat} (s : StI w g b n h F c) (hb : Below B w w') (h1 : g < B) (h2 : b < B) : StI w' g b n h F c := s.keep (hb.block g h1) (hb.block b h2)
theorem StI.mono (s : StI w g b n h F c) {n' : Nat} (hn : n ≤ n') : StI w g b n' h F c := ⟨s.blk, s.map.mono hn, s.ne⟩
theorem StI.turn {n' c' : Nat} {F' : Int → Option (Int × Int)} (s : StI w g b n h F c) (m : MapI w' b n' F' c') (t : w.mapTurned w' b) : StI w' g b n' h F' c' :=
  ⟨(t.grown.block g s.blk.lt (by simpa using Ne.symm s.ne)).trans s.blk, m, s.ne⟩
theorem StI.setHead (s : StI w g b n h F c) (h' : Int) : StI (w.setCell ⟨g, 0, none⟩ (.int .i64 h')) g b n h' F c :=
  ⟨s.blk.set 0 _, s.map.block (Below.heap_setCell w ⟨g, 0, none⟩ _ b s.ne), s.ne⟩
end
end Go.Proofs.Ytagfehfggkehmaa

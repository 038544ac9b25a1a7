/-
  A store of versions (of string) in memory: its struct, and its map.
-/
import Derived.Test.YtagfehfggkehmaaBase
import Derived.Test.YtagfehfggkehmaaSeat
import Derived.Test.YtagfehfggkehmaaVer
namespace Go.Proofs.Ytagfehfggkehmaa
set_option linter.unusedVariables false
set_option linter.unusedSimpArgs false
open Go.RowKit Go.Maps

/-- How a version that is live reads: what it is, and how often it is pinned. -/
def rKS : Value → Option (DataW Unit × List MemPlace)
  | .agg cs => match cs.toList with
    | [.string x, .int .i64 p] => some (.agg [.lit (.string x.data.toList), .lit (.int .i64 p)], [])
    | _ => none
  | _ => none
def dS (v : ByteArray × Int) : DataW Unit := .agg [.lit (.string v.1.data.toList), .lit (.int .i64 v.2)]
theorem rKS_mk (v : ByteArray × Int) : rKS (.agg #[.string v.1, .int .i64 v.2]) = some (dS v, []) := rfl
theorem rKS_inv {u : Value} {v : ByteArray × Int} {ps : List MemPlace} (h : rKS u = some (dS v, ps)) : u = .agg #[.string v.1, .int .i64 v.2] := by
  unfold rKS at h
  split at h
  · rename_i cs
    split at h
    · rename_i x p hc
      obtain ⟨x', p'⟩ := v
      simp [dS] at h
      obtain ⟨⟨h1, h2⟩, _⟩ := h
      have hcs : cs = #[.string x, .int .i64 p] := by cases cs; simp_all
      have h3 : x = x' := by cases x; cases x'; simp_all
      subst h3
      subst h2
      rw [hcs]
    · cases h
  · cases h

theorem zeroS (w : World) : (zeroValue 60).run Try.prog w = .ok (.agg #[.string (⟨#[]⟩ : ByteArray), .int .i64 0]) w := by kernel_rfl
theorem lawS : Keyed Try.prog 3 := int_keyed Try.underlying3

/-- Block b is a map of at most n entries: at k stands F k; there are c. -/
def MapS (w : World) (b n : Nat) (F : Int → Option (ByteArray × Int)) (c : Nat) : Prop :=
  ∃ D : DataW Unit, w.ownsMap Try.prog 3 rKS b n D ∧ (∀ k : Int, Maps.has D (.int .i64 k) = (F k).isSome) ∧ (∀ (k : Int) v, F k = some v → ∀ zd, D.atKey (.int .i64 k) zd = dS v) ∧ Maps.size D = c

section
variable {w w' : World} {b n c : Nat} {F : Int → Option (ByteArray × Int)}
theorem MapS.made (w : World) : MapS (w.alloc (.map #[] 0)) w.heap.size 0 (fun _ => none) 0 :=
  ⟨_, World.ownsMap_made w _ _ _, fun k => rfl, fun k v h => (by cases h), rfl⟩
theorem MapS.lt (h : MapS w b n F c) : b < w.heap.size := by obtain ⟨D, ho, _⟩ := h; exact ho.lt
theorem MapS.mono (h : MapS w b n F c) {n' : Nat} (hn : n ≤ n') : MapS w b n' F c := by obtain ⟨D, ho, r⟩ := h; exact ⟨D, ho.mono hn, r⟩
theorem MapS.drew (h : MapS w b n F c) : MapS w.drew b n F c := h
theorem MapS.drewN (h : MapS w b n F c) (m : Nat) : MapS (w.drewN m) b n F c := h
theorem MapS.block (h : MapS w b n F c) (hb : w'.heap[b]? = w.heap[b]?) : MapS w' b n F c := by
  obtain ⟨D, ⟨es, clock, hes, r⟩, q⟩ := h
  exact ⟨D, ⟨es, clock, hb.trans hes, r⟩, q⟩
theorem MapS.below {B : Nat} (h : MapS w b n F c) (hb : Below B w w') (hB : b < B) : MapS w' b n F c := h.block (hb.block b hB)
theorem MapS.look (h : MapS w b n F c) (q : Bool) {k : Int} (hk : (Lit.int .i64 k).wf = true) :
    (Instr.lookup 61 (.map (some b)) (.int .i64 k) q).run Try.prog w = .ok (if q then .tuple #[.agg #[.string (((F k).getD ((⟨#[]⟩ : ByteArray), 0)).1), .int .i64 ((F k).getD ((⟨#[]⟩ : ByteArray), 0)).2], .bool (F k).isSome] else .agg #[.string (((F k).getD ((⟨#[]⟩ : ByteArray), 0)).1), .int .i64 ((F k).getD ((⟨#[]⟩ : ByteArray), 0)).2]) w := by
  obtain ⟨D, ho, hh, ha, _⟩ := h
  have hkey := keyOf_int_mk (P := Try.prog) Try.underlying3 hk
  have hd : D.atKey (.int .i64 k) (dS ((⟨#[]⟩ : ByteArray), 0)) = dS ((F k).getD ((⟨#[]⟩ : ByteArray), 0)) := by
    cases hF : F k with
    | none =>
      have h0 := hh k
      rw [hF] at h0
      rw [Maps.atKey_of_not_has h0]
      rfl
    | some v => rw [ha k v hF]; rfl
  cases q with
  | false =>
    obtain ⟨v, ps, hrun, hv⟩ := ho.lookup lawS Try.underlying61 (zeroS w) (rKS_mk ((⟨#[]⟩ : ByteArray), 0)) hkey
    rw [hd] at hv
    rw [hrun, rKS_inv hv]
    rfl
  | true =>
    obtain ⟨v, ps, hrun, hv⟩ := ho.look_ok lawS Try.underlying61 (zeroS w) (rKS_mk ((⟨#[]⟩ : ByteArray), 0)) hkey
    rw [hd] at hv
    rw [hrun, rKS_inv hv, hh k]
    rfl
theorem MapS.put (h : MapS w b n F c) (hn : n < maxLen) {k : Int} (hk : (Lit.int .i64 k).wf = true) (v : ByteArray × Int) :
    ∃ w', (Instr.mapUpdate 61 (.map (some b)) (.int .i64 k) (.agg #[.string v.1, .int .i64 v.2])).run Try.prog w = .ok () w' ∧ MapS w' b (n + 1) (putF F k v) (putC F k c) ∧ w.mapTurned w' b := by
  obtain ⟨D, ho, hh, ha, hs⟩ := h
  have hkey := keyOf_int_mk (P := Try.prog) Try.underlying3 hk
  obtain ⟨w', hrun, ho', ht⟩ := ho.store lawS Try.underlying61 hn hkey (rKS_mk v)
  have hlit := lawS.key hkey
  refine ⟨w', hrun, ⟨_, ho', fun j => ?_, fun j u hu zd => ?_, ?_⟩, ht⟩
  · by_cases hj : j = k
    · subst hj
      rw [Maps.has_put_same ho.isMap hlit]; simp [putF]
    · rw [Maps.has_put_other (by simpa using hj), hh j]; simp [putF, hj]
  · by_cases hj : j = k
    · subst hj
      rw [Maps.atKey_put_same ho.isMap hlit]
      simp [putF] at hu
      rw [hu]
    · rw [Maps.atKey_put_other (by simpa using hj)]
      exact ha j u (by simpa [putF, hj] using hu) zd
  · rw [Maps.size_put (ho.tidy lawS), hh k, hs]; rfl
theorem MapS.del (h : MapS w b n F c) {k : Int} (hk : (Lit.int .i64 k).wf = true) (D : DataW Unit) (hh : ∀ k : Int, Maps.has D (.int .i64 k) = (F k).isSome) (ha : ∀ (k : Int) v, F k = some v → ∀ zd, D.atKey (.int .i64 k) zd = dS v) (hs : Maps.size D = c)
    (ho : w.ownsMap Try.prog 3 rKS b n D) (ho' : w'.ownsMap Try.prog 3 rKS b n (D.del (.int .i64 k))) : MapS w' b n (delF F k) (delC F k c) := by
  refine ⟨_, ho', fun j => ?_, fun j u hu zd => ?_, ?_⟩
  · by_cases hj : j = k
    · subst hj
      rw [Maps.has_del_same]; simp [delF]
    · rw [Maps.has_del_other (by simpa using hj), hh j]; simp [delF, hj]
  · by_cases hj : j = k
    · subst hj
      simp [delF] at hu
    · rw [Maps.atKey_del_other (by simpa using hj)]
      exact ha j u (by simpa [delF, hj] using hu) zd
  · have := Maps.size_del (k := .int .i64 k) (ho.tidy lawS)
    rw [hh k, hs] at this
    unfold delC
    omega
end

/-- Block g is a store: its head is h, its map lies in block b. -/
structure StS (w : World) (g b n : Nat) (h : Int) (F : Int → Option (ByteArray × Int)) (c : Nat) : Prop where
  blk : Blk w g 63 [.int .i64 h, .map (some b)]
  map : MapS w b n F c
  ne : b ≠ g

section
variable {w w' : World} {g b n c : Nat} {h : Int} {F : Int → Option (ByteArray × Int)}
theorem StS.drew (s : StS w g b n h F c) : StS w.drew g b n h F c := ⟨s.blk, s.map, s.ne⟩
theorem StS.drewN (s : StS w g b n h F c) (m : Nat) : StS (w.drewN m) g b n h F c := ⟨s.blk, s.map, s.ne⟩
theorem StS.lt (s : StS w g b n h F c) : g < w.heap.size ∧ b < w.heap.size := ⟨s.blk.lt, s.map.lt⟩
theorem StS.keep (s : StS w g b n h F c) (hg : w'.heap[g]? = w.heap[g]?) (hb : w'.heap[b]? = w.heap[b]?) : StS w' g b n h F c := ⟨hg.trans s.blk, s.map.block hb, s.ne⟩
theorem StS.below {B : Nat} (s : StS w g b n h F c) (hb : Below B w w') (h1 : g < B) (h2 : b < B) : StS w' g b n h F c := s.keep (hb.block g h1) (hb.block b h2)
theorem StS.mono (s : StS w g b n h F c) {n' : Nat} (hn : n ≤ n') : StS w g b n' h F c := ⟨s.blk, s.map.mono hn, s.ne⟩
theorem StS.turn {n' c' : Nat} {F' : Int → Option (ByteArray × Int)} (s : StS w g b n h F c) (m : MapS w' b n' F' c') (t : w.mapTurned w' b) : StS w' g b n' h F' c' :=
  ⟨(t.grown.block g s.blk.lt (by simpa using Ne.symm s.ne)).trans s.blk, m, s.ne⟩
theorem StS.setHead (s : StS w g b n h F c) (h' : Int) : StS (w.setCell ⟨g, 0, none⟩ (.int .i64 h')) g b n h' F c :=
  ⟨s.blk.set 0 _, s.map.block (Below.heap_setCell w ⟨g, 0, none⟩ _ b s.ne), s.ne⟩
end
end Go.Proofs.Ytagfehfggkehmaa

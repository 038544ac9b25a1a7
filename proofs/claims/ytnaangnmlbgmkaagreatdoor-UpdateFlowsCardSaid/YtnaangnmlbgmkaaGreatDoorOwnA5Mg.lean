/-
  Texts of this seat, put together: OwnA5.
-/
import Derived.Deep.RegionHeld3
import Derived.Test.YtnaangnmlbgmkaaGreatDoorMg22
import Derived.Test.YtnaangnmlbgmkaaGreatDoorMg8
/-
  Attributes of one's own: what ownAttrs tells says the same.
-/
namespace Go.Proofs.YtnaangnmlbgmkaaGreatDoor
set_option linter.unusedVariables false
set_option linter.unusedSimpArgs false
open Go.RowKit

theorem rows_at_segs {w : World} {B : Nat} {A : Option Addr} {L : List Sg} (h : Segs w B A L) : RowAt w B A (flatS L) := by
  intro hne
  obtain ⟨b, off, hA, hlt, hc⟩ := h (by intro e; rw [e] at hne; exact hne rfl)
  refine ⟨b, off, hA, hlt, fun j u hu => ?_⟩
  have hj : j < L.length * 2 := by have := (List.getElem?_eq_some_iff.1 hu).1; rwa [flat_len] at this
  obtain ⟨s, hs⟩ : ∃ s, L[j / 2]? = some s := ⟨_, List.getElem?_eq_getElem (by omega)⟩
  obtain ⟨k1, k2, _⟩ := hc _ _ hs
  obtain ⟨q1, q2⟩ := flat_at L _ _ hs
  rcases (show j = j / 2 * 2 ∨ j = j / 2 * 2 + 1 by omega) with e | e
  · rw [e] at hu ⊢
    have e2 : off + j / 2 * 2 / 2 * 2 = off + j / 2 * 2 := by omega
    rw [q1] at hu
    rw [k1]; exact hu
  · rw [e] at hu ⊢
    rw [q2] at hu
    show w.cell? ⟨b, off + j / 2 * 2 + 1, none⟩ = some u
    rw [k2]; exact hu
theorem flatS_one (L : List Sg) : ∀ u ∈ flatS L, u.oneCell' = true := by
  intro u hu
  obtain ⟨s, _, hs⟩ := List.mem_flatMap.1 hu
  exact two_one s u hs
theorem flatR_len (L : List Rw) : (flatR L).length = L.length * 3 := by
  induction L with
  | nil => rfl
  | cons s L ih => simp only [flatR, List.flatMap_cons, List.length_append, List.length_cons] at ih ⊢; rw [ih]; simp; omega
theorem flatR_one (L : List Rw) : ∀ u ∈ flatR L, u.oneCell' = true := by
  intro u hu
  obtain ⟨s, _, hs⟩ := List.mem_flatMap.1 hu
  simp only [List.mem_cons, List.not_mem_nil, or_false] at hs
  rcases hs with rfl | rfl | rfl <;> rfl
theorem rows_at_raws {w : World} {B : Nat} {A : Option Addr} {L : List Rw} (h : RwIn w B A L) : RowAt w B A (flatR L) := by
  intro hne
  obtain ⟨b, off, hA, hlt, hc⟩ := h (by intro e; rw [e] at hne; exact hne rfl)
  refine ⟨b, off, hA, hlt, fun j u hu => ?_⟩
  have hj : j < L.length * 3 := by have := (List.getElem?_eq_some_iff.1 hu).1; rwa [flatR_len] at this
  obtain ⟨s, hs⟩ : ∃ s, L[j / 3]? = some s := ⟨_, List.getElem?_eq_getElem (by omega)⟩
  obtain ⟨k1, k2, k3, _⟩ := hc _ _ hs
  obtain ⟨q1, q2, q3⟩ := flatR_at L _ _ hs
  rcases (show j = j / 3 * 3 ∨ j = j / 3 * 3 + 1 ∨ j = j / 3 * 3 + 2 by omega) with e | e | e
  · rw [e] at hu ⊢
    rw [q1] at hu
    show w.cell? ⟨b, off + j / 3 * 3, none⟩ = some u
    rw [k1]; exact hu
  · rw [e] at hu ⊢
    rw [q2] at hu
    show w.cell? ⟨b, off + j / 3 * 3 + 1, none⟩ = some u
    rw [k2]; exact hu
  · rw [e] at hu ⊢
    rw [q3] at hu
    show w.cell? ⟨b, off + j / 3 * 3 + 2, none⟩ = some u
    rw [k3]; exact hu
/-- Where ownAttrs stands: its own copy, and what it tells. -/
structure OwA (w : World) (a : Av) (pv cv rv : Value) (W : World) : Prop where
  bel : Below w.heap.size w W
  blk : Blk W w.heap.size 28 [.int .i64 a.org, pv, .int .u32 a.next, .int .i64 a.med, .int .i64 a.pref, .bool a.atomic, .bool a.has, .int .u32 a.aas, .int .u32 a.aad, cv, rv]
  res : Blk W (w.heap.size + 1) 28 zeroRow0
  lt : w.heap.size + 2 ≤ W.heap.size
section
variable {w W W' : World} {a : Av} {pv cv rv : Value}
theorem OwA.below (h : OwA w a pv cv rv W) (hb : Below W.heap.size W W') : OwA w a pv cv rv W' :=
  ⟨h.bel.trans (hb.mono h.bel.size), h.blk.below hb h.blk.lt, h.res.below hb h.res.lt, Nat.le_trans h.lt hb.size⟩
theorem OwA.grown {g : Nat} (h : OwA w a pv cv rv W) (hg : W.grownBy W' (some g)) (h1 : w.heap.size + 2 ≤ g) : OwA w a pv cv rv W' :=
  ⟨h.bel.grown hg h.bel.size (fun k hk => by cases hk; omega), h.blk.grown hg (by omega), h.res.grown hg (by omega), Nat.le_trans h.lt hg.size⟩
end
theorem rw_abs_same (L : List Rw) (j : Nat) (s : Rw) (A : Option Addr) (c : Nat) (h : L[j]? = some s) : (L.set j ⟨s.flags, s.ty, A, c, s.data⟩).map Rw.abs = L.map Rw.abs := map_set_same Rw.abs L j s _ h rfl
theorem sg_abs_same (M : List Sg) (j : Nat) (s : Sg) (A : Option Addr) (c : Nat) (h : M[j]? = some s) : (M.set j ⟨s.kind, A, c, s.nums⟩).map Sg.abs = M.map Sg.abs := map_set_same Sg.abs M j s _ h rfl
theorem wrap_up {n j : Nat} (h : j < n) (hn : n ≤ 1000000) : wrap64 ((j : Int) + 1) = (j : Int) + 1 := by unfold wrap64; omega
theorem lt_two {n j : Nat} (h : j < n) : j * 2 + 1 < n * 2 := by omega
theorem lt_three {n j : Nat} (h : j < n) : j * 3 + 2 < n * 3 := by omega
theorem meas_up (n j : Nat) (h : j < n) (hn : n ≤ 1000000) : n - (intOf (.int .i64 (wrap64 ((j : Int) + 1)))).toNat < n - (intOf (.int .i64 (j : Int))).toNat := by
  have e : wrap64 ((j : Int) + 1) = (j : Int) + 1 := by unfold wrap64; omega
  rw [e]
  show n - ((j : Int) + 1).toNat < n - (j : Int).toNat
  omega
/-- What ownAttrs leaves. -/
def RetOwA (w : World) (a : Av) (e : Ending) (w' : World) : Prop :=
  ∃ x : Av, e = .returned (.agg x.row.toArray) ∧ OwnAv w' x ∧ Below w.heap.size w w' ∧ x.org = a.org ∧ x.path.map Sg.abs = a.path.map Sg.abs ∧ x.next = a.next ∧ x.med = a.med ∧ x.pref = a.pref ∧ x.atomic = a.atomic ∧ x.has = a.has ∧ x.aas = a.aas ∧ x.aad = a.aad ∧ x.comms = a.comms ∧ x.raws.map Rw.abs = a.raws.map Rw.abs
set_option maxHeartbeats 12800000 in
set_option maxRecDepth 100000 in
theorem ownAttrs_any (a : Av) (w : World) (h : a.In w w.heap.size) (hl : a.path.length ≤ 1000000 ∧ (∀ s ∈ a.path, s.nums.length ≤ 1000000000) ∧ a.comms.length ≤ 1000000 ∧ a.raws.length ≤ 1000000 ∧ ∀ s ∈ a.raws, s.data.length ≤ 1000000) :
    Calls Tryz.prog 68 #[.agg a.row.toArray] w (RetOwA w a) := by
  obtain ⟨W0, hW0⟩ : ∃ W0, W0 = (w.alloc (.cells a.row.toArray 28)).alloc (.cells zeroRow0.toArray 28) := ⟨_, rfl⟩
  have hb0 : Below w.heap.size w W0 := by rw [hW0]; exact ((Below.refl _ _).alloc (Nat.le_refl _) _).alloc (by simp) _
  have kx : Blk W0 w.heap.size 28 a.row := by
    rw [hW0]
    exact (Blk.new w _ _).below ((Below.refl _ _).alloc (Nat.le_refl _) _) (by simp)
  have kr : Blk W0 (w.heap.size + 1) 28 zeroRow0 := by
    have := Blk.new (w.alloc (.cells a.row.toArray 28)) 28 zeroRow0
    rw [hW0]
    simpa using this
  have hz : W0.heap.size = w.heap.size + 2 := by rw [hW0]; simp
  have S0 := Lib.hid (show OwA w a (.slice a.pathA a.path.length a.pathC) (.slice a.commsA a.comms.length a.commsC) (.slice a.rawsA a.raws.length a.rawsC) W0 from ⟨hb0, kx, kr, by omega⟩)
  have HIN := Lib.hid (fun (W : World) (q : Below w.heap.size w W) => h.below q (Nat.le_refl _))
  have HL := Lib.hid hl
  have HW0 := Lib.hid (show W0 = (w.alloc (.cells a.row.toArray 28)).alloc (.cells #[.int .i64 0, .slice none 0 0, .int .u32 0, .int .i64 0, .int .i64 0, .bool false, .bool false, .int .u32 0, .int .u32 0, .slice none 0 0, .slice none 0 0] 28) from hW0)
  have HE := Lib.hid h.each
  clear hW0 hb0 kx kr hz h hl
  have QP := Lib.hid (CloneS_any a.pathA a.path.length a.pathC (flatS a.path) (flat_len _) W0 (rows_at_segs ((HIN.out _ S0.out.bel).path.lift S0.out.bel.size)) (flatS_one _) (by have := HL.out; omega))
  have cb := S0.out.blk.cell 1
  have c1 : W0.cell? ⟨w.heap.size, 1, none⟩ = some (.slice a.pathA a.path.length a.pathC) := cb
  clear cb
  go_enter Tryz.func68, Tryz.ntmps68
  go_wp2_with (first
    | (refine wpList_boxA _ rfl (.tmp 0) rfl a rfl ?_)
    | (rw [← HW0.out]))
  refine QP.out.mono ?_
  rintro e w1 ⟨P1, pc1, rfl, f1, f2, ho1, hb1⟩
  have S1 := S0.out.below hb1
  have K1 := Lib.hid (show PathK w.heap.size w1 (.slice P1 a.path.length pc1) a.path from ⟨⟨ho1.1, ho1.2.imp id fun ⟨g, cap, cur, q1, q2, q3⟩ => ⟨g, cap, cur, q1, Nat.le_trans S0.out.bel.size q2, q3⟩⟩, fun s hs => .inl (by
    obtain ⟨j, hj⟩ := List.getElem?_of_mem hs
    obtain ⟨b, off, _, _, _, _, hok⟩ := (HIN.out _ S1.bel).path.at hj
    exact hok)⟩)
  have HC1 := Lib.hid (And.intro f1 f2)
  have fr1 : w1.frozen? ⟨w.heap.size, 1, none⟩ = false := S1.blk.free 1
  have cw1 : w1.cell? ⟨w.heap.size, 1, none⟩ = some (.slice a.pathA a.path.length a.pathC) := S1.blk.cell 1
  have hg2 : w1.grownBy (w1.setCell ⟨w.heap.size, 1, none⟩ (.slice P1 a.path.length pc1)) (some w.heap.size) := grown_setCell (grown_refl _ _) 1 _
  have S2 := Lib.hid (show OwA w a (.slice P1 a.path.length pc1) (.slice a.commsA a.comms.length a.commsC) (.slice a.rawsA a.raws.length a.rawsC) (w1.setCell ⟨w.heap.size, 1, none⟩ (.slice P1 a.path.length pc1)) from
    ⟨S1.bel.grown hg2 S1.bel.size (fun k hk => by cases hk; exact Nat.le_refl _), S1.blk.set 1 _, S1.res.grown hg2 (by omega), Nat.le_trans S1.lt hg2.size⟩)
  have K2 := Lib.hid (K1.out.keep S1.blk (by decide) (by decide) (Nat.le_refl _) S1.bel.size hg2)
  obtain ⟨W2, hW2⟩ : ∃ W2, W2 = w1.setCell ⟨w.heap.size, 1, none⟩ (.slice P1 a.path.length pc1) := ⟨_, rfl⟩
  rw [← hW2] at S2 K2
  have c2 : W2.cell? ⟨w.heap.size, 1, none⟩ = some (.slice P1 a.path.length pc1) := S2.out.blk.cell 1
  have HW2 := Lib.hid hW2
  clear hb1 ho1 hg2 S1 QP f1 f2 c1 hW2
  go_wp2_with (rw [← HW2.out])
  go_loopw [14] (fun i wr => ∃ (j : Nat) (M : List Sg), j ≤ a.path.length ∧ i = .int .i64 (j : Int) ∧ Hid (OwA w a (.slice P1 a.path.length pc1) (.slice a.commsA a.comms.length a.commsC) (.slice a.rawsA a.raws.length a.rawsC) wr) ∧ Hid (PathK w.heap.size wr (.slice P1 a.path.length pc1) M) ∧ Hid (M.length = a.path.length ∧ M.map Sg.abs = a.path.map Sg.abs) ∧ Hid (∀ (i : Nat) (s : Sg), i < j → M[i]? = some s → Own32 wr w.heap.size s.sl s.nums)) (fun i _ => a.path.length - (intOf i).toNat)
  case atStart => exact ⟨0, a.path, Nat.zero_le _, rfl, S2, K2, Lib.hid ⟨rfl, rfl⟩, Lib.hid (fun i s hi => by omega)⟩
  case round =>
    obtain ⟨j, M, hj, rfl, S, K, HM, HDN⟩ := hrel
    by_cases hlt : j < a.path.length
    · have hmn := HM.out.1
      obtain ⟨s, hs⟩ : ∃ s, M[j]? = some s := ⟨_, List.getElem?_eq_getElem (by omega)⟩
      have krow := K.out.row
      rw [hmn] at krow
      obtain ⟨g, rfl⟩ := own_at0 krow (by omega)
      obtain ⟨q1, q2⟩ := flat_at M j s hs
      have k1 := World.ownsRow.cells K.out.row (g := g) rfl _ _ q1
      have k2 := World.ownsRow.cells K.out.row (g := g) rfl _ _ q2
      rw [Addr.add_lit, Nat.zero_add] at k1 k2
      unfold Sg.sl at k2
      obtain ⟨cs, kb, hB⟩ := own_row_blk krow
      have hge : w.heap.size + 2 ≤ g := by
        have h1 : g ≠ w.heap.size := fun e => by subst e; have := kb.symm.trans S.out.blk; simp at this
        have h2 : g ≠ w.heap.size + 1 := fun e => by rw [e] at kb; have := kb.symm.trans S.out.res; simp at this
        omega
      have hok := (K.out.each s (List.mem_of_getElem? hs)).ok S.out.bel.size
      obtain ⟨W4, hW4⟩ : ∃ W4, W4 = wr.alloc (.cells #[.int .i64 s.kind, .slice s.adr s.nums.length s.cap] 112) := ⟨_, rfl⟩
      have hb4 : Below wr.heap.size wr W4 := by rw [hW4]; exact (Below.refl _ _).alloc (Nat.le_refl _) _
      have kp : Blk W4 wr.heap.size 112 [.int .i64 s.kind, .slice s.adr s.nums.length s.cap] := by rw [hW4]; exact Blk.new wr _ _
      have hsl : s.nums.length ≤ 1000000000 := by
        have hm := HM.out.2
        have : (s.kind, s.nums) ∈ a.path.map Sg.abs := by rw [← hm]; exact List.mem_map.2 ⟨s, List.mem_of_getElem? hs, rfl⟩
        obtain ⟨s2, h2, h3⟩ := List.mem_map.1 this
        have h4 := HL.out.2.1 s2 h2
        simp only [Sg.abs, Prod.mk.injEq] at h3
        rw [← h3.2]; exact h4
      have QC := fun (W : World) (q : Below W4.heap.size W4 W) => Lib.hid (Clone32_any s.adr s.nums.length s.cap s.nums rfl W (((hok.2.2.1.below hb4 (Nat.le_refl _)).below q (hb4.size)).lift (Nat.le_trans hb4.size q.size)) hsl)
      have S4 := Lib.hid (S.out.below hb4)
      have HK2 := Lib.hid (show W4.cell? ⟨g, j * 2 + 1, none⟩ = some (.slice s.adr s.nums.length s.cap) from (hb4.cell (p := ⟨g, j * 2 + 1, none⟩) kb.lt).trans k2)
      have K4 := Lib.hid (K.out.below hb4 S.out.bel.size)
      have kb4 := Lib.hid (kb.below hb4 kb.lt)
      have HS := Lib.hid (fun (w' : World) (q : Below W4.heap.size W4 w') => And.intro (show w'.cell? ⟨w.heap.size, 1, none⟩ = some (.slice (some ⟨g, 0, none⟩) a.path.length pc1) from (S4.out.below q).blk.cell 1) (show w'.cell? ⟨wr.heap.size, 1, none⟩ = some (.slice s.adr s.nums.length s.cap) from (kp.below q kp.lt).cell 1))
      have hb4d : Below W4.heap.size W4 W4.drew := (Below.refl _ _).drew
      have HSJ := Lib.hid hs; have HOKS := Lib.hid hok; have HGE := Lib.hid hge; have HW4 := Lib.hid hW4; have HJ := Lib.hid hlt; have HQ1 := Lib.hid (And.intro q1 q2)
      have hjn : (j : Int) < (a.path.length : Int) := by omega
      have hne : g ≠ wr.heap.size := by have := kb.lt; omega
      clear hs krow q1 q2 hok hW4 hb4 hsl hge
      go_wp2_with fail
      rw [← HW4.out]
      have hh := HS.out _ hb4d
      go_region_held3 (fun w' => w'.cell? ⟨w.heap.size, 1, none⟩ = some (.slice (some ⟨g, 0, none⟩) a.path.length pc1) ∧ w'.cell? ⟨wr.heap.size, 1, none⟩ = some (.slice s.adr s.nums.length s.cap)) (first | exact HS.out _ hb4d | exact HS.out _ hb5 | exact HSET.out) ((first
        | (go_at_call 108; refine (QC _ hb4d).out.mono ?_; rintro e w5 ⟨A2, c2, rfl, f1, f2, ho2, hg2⟩; have hb5 := hb4d.trans (hg2.mono hb4d.size); have kb5 := kb4.out.below hb5 kb4.out.lt; have fr5 := kb5.free (j * 2 + 1); have ck5 : w5.cell? ⟨g, j * 2 + 1, none⟩ = some (.slice s.adr s.nums.length s.cap) := (((kb4.out.below hb5 kb4.out.lt).cell (j * 2 + 1)).trans ((kb4.out.cell (j * 2 + 1)).symm.trans HK2.out)); have S5 := Lib.hid (S4.out.below hb5); have hset : w5.grownBy (w5.setCell ⟨g, j * 2 + 1, none⟩ (.slice A2 s.nums.length c2)) (some g) := grown_setCell (grown_refl _ _) _ _; have S6 := Lib.hid (S5.out.grown hset HGE.out); have HSET := Lib.hid (And.intro (show (w5.setCell ⟨g, j * 2 + 1, none⟩ (.slice A2 s.nums.length c2)).cell? ⟨w.heap.size, 1, none⟩ = some (.slice (some ⟨g, 0, none⟩) a.path.length pc1) from S6.out.blk.cell 1) (show (w5.setCell ⟨g, j * 2 + 1, none⟩ (.slice A2 s.nums.length c2)).cell? ⟨wr.heap.size, 1, none⟩ = some (.slice s.adr s.nums.length s.cap) from (((kp.below hb5 kp.lt)).grown hset (Ne.symm hne)).cell 1)); have HO2 := Lib.hid ho2; have HF2 := Lib.hid (And.intro f1 f2); have HB5 := Lib.hid hb5; clear ho2 f1 f2)))
      go_wp2_with fail
      go_roundw
      case rel =>
        have hmm := HM.out
        have hwr := wrap_up HJ.out HL.out.1
        have K5 := K4.out.below HB5.out (Nat.le_trans S.out.bel.size (show wr.heap.size ≤ W4.heap.size by rw [HW4.out]; simp))
        have hBs : w.heap.size ≤ w5.heap.size := S5.out.bel.size
        have hrow5 := K5.row
        rw [hmm.1] at hrow5
        have kbb := kb4.out.below HB5.out kb4.out.lt
        have hset : w5.grownBy (w5.setCell ⟨g, j * 2 + 1, none⟩ (.slice A2 s.nums.length c2)) (some g) := grown_setCell (grown_refl _ _) _ _
        have hlen2 : (M.set j ⟨s.kind, A2, c2, s.nums⟩).length = a.path.length := by rw [List.length_set]; exact hmm.1
        refine ⟨j + 1, M.set j ⟨s.kind, A2, c2, s.nums⟩, HJ.out, by rw [hwr]; rfl, S6, Lib.hid ⟨?_, fun x hx => ?_⟩, Lib.hid ⟨hlen2, by rw [sg_abs_same M j s A2 c2 HSJ.out]; exact hmm.2⟩, Lib.hid (fun i x hi hx => ?_)⟩
        · rw [hlen2, ← flatS_set M j s A2 c2 HSJ.out]
          exact own_setCell _ hrow5 (lt_two HJ.out)
        · rcases List.mem_or_eq_of_mem_set hx with hx | rfl
          · exact (K5.each x hx).keep kbb (by decide) hB hBs hset
          · exact .inr ⟨Own32.lower (row_keep HO2.out kbb (by decide) hset) (Nat.le_trans S.out.bel.size (show wr.heap.size ≤ W4.drew.heap.size by rw [HW4.out]; simp)), HF2.out.1, HF2.out.2, HOKS.out.2.2.2⟩
        · by_cases hij : i = j
          · subst hij
            rw [List.getElem?_set_self (by rw [HM.out.1]; exact HJ.out)] at hx
            obtain rfl := Option.some.inj hx
            exact Own32.lower (row_keep HO2.out kbb (by decide) hset) (Nat.le_trans S.out.bel.size (show wr.heap.size ≤ W4.drew.heap.size by rw [HW4.out]; simp))
          · rw [List.getElem?_set_ne (Ne.symm hij)] at hx
            have hq := HDN.out i x (Nat.lt_of_le_of_ne (Nat.le_of_lt_succ hi) hij) hx
            have hb45 : Below wr.heap.size wr w5 := by
              have h1 : Below wr.heap.size wr W4 := by rw [HW4.out]; exact (Below.refl _ _).alloc (Nat.le_refl _) _
              exact h1.trans (HB5.out.mono h1.size)
            exact row_keep (hq.below hb45) kbb (by decide) hset
      case measure => exact meas_up _ _ HJ.out HL.out.1
    · obtain rfl : j = a.path.length := by omega
      have c9 : wr.cell? ⟨w.heap.size, 9, none⟩ = some (.slice a.commsA a.comms.length a.commsC) := S.out.blk.cell 9
      have QC2 := Lib.hid (Clone32_any a.commsA a.comms.length a.commsC a.comms rfl wr ((HIN.out _ S.out.bel).comms.lift S.out.bel.size) (by have := HL.out; omega))
      have KP := Lib.hid (show PathD w.heap.size wr (.slice P1 a.path.length pc1) M from ⟨K.out.row, fun s hs => by
        obtain ⟨i, hi⟩ := List.getElem?_of_mem hs
        have hil : i < M.length := (List.getElem?_eq_some_iff.1 hi).1
        rw [HM.out.1] at hil
        exact ⟨HDN.out i s hil hi, ((K.out.each s hs)).fit⟩⟩)
      have SP := S
      clear K S hlt hj HDN
      go_wp2_with fail
      refine QC2.out.mono ?_
      rintro e w2 ⟨C2, cc2, rfl, f1, f2, hoc, hb2⟩
      have S2 := SP.out.below hb2
      have hBs := S2.bel.size
      have K2 := KP.out.below hb2 SP.out.bel.size
      have fr9 : w2.frozen? ⟨w.heap.size, 9, none⟩ = false := S2.blk.free 9
      have cw9 : w2.cell? ⟨w.heap.size, 9, none⟩ = some (.slice a.commsA a.comms.length a.commsC) := S2.blk.cell 9
      obtain ⟨W3, hW3⟩ : ∃ W3, W3 = w2.setCell ⟨w.heap.size, 9, none⟩ (.slice C2 a.comms.length cc2) := ⟨_, rfl⟩
      have hg3 : w2.grownBy W3 (some w.heap.size) := by rw [hW3]; exact grown_setCell (grown_refl _ _) 9 _
      have S3 := Lib.hid (show OwA w a (.slice P1 a.path.length pc1) (.slice C2 a.comms.length cc2) (.slice a.rawsA a.raws.length a.rawsC) W3 from
        ⟨S2.bel.grown hg3 hBs (fun k hk => by cases hk; exact Nat.le_refl _), by rw [hW3]; exact S2.blk.set 9 _, S2.res.grown hg3 (by omega), Nat.le_trans S2.lt hg3.size⟩)
      have K3 := Lib.hid (K2.keep S2.blk (by decide) (by decide) (Nat.le_refl _) hBs hg3)
      have O3 := Lib.hid (show Own32 W3 w.heap.size (.slice C2 a.comms.length cc2) a.comms from Own32.lower (row_keep hoc S2.blk (by decide) hg3) SP.out.bel.size)
      have HC3 := Lib.hid (And.intro f1 f2); have HW3 := Lib.hid hW3
      have c10 : W3.cell? ⟨w.heap.size, 10, none⟩ = some (.slice a.rawsA a.raws.length a.rawsC) := S3.out.blk.cell 10
      have QR2 := Lib.hid (CloneR_any a.rawsA a.raws.length a.rawsC (flatR a.raws) (flatR_len _) W3 (rows_at_raws ((HIN.out _ S3.out.bel).raws.lift S3.out.bel.size)) (flatR_one _) (by have := HL.out; omega))
      clear hb2 hoc hg3 f1 f2 hW3 S2 K2 QC2 c9 SP KP
      go_wp2_with (rw [← HW3.out])
      refine QR2.out.mono ?_
      rintro e w4 ⟨R4, rc4, rfl, f1, f2, hor, hb4⟩
      have S4 := S3.out.below hb4
      have hBs4 := S4.bel.size
      have K4 := K3.out.below hb4 S3.out.bel.size
      have O4 := O3.out.below hb4
      have fr10 : w4.frozen? ⟨w.heap.size, 10, none⟩ = false := S4.blk.free 10
      have cw10 : w4.cell? ⟨w.heap.size, 10, none⟩ = some (.slice a.rawsA a.raws.length a.rawsC) := S4.blk.cell 10
      obtain ⟨W5, hW5⟩ : ∃ W5, W5 = w4.setCell ⟨w.heap.size, 10, none⟩ (.slice R4 a.raws.length rc4) := ⟨_, rfl⟩
      have hg5 : w4.grownBy W5 (some w.heap.size) := by rw [hW5]; exact grown_setCell (grown_refl _ _) 10 _
      have S5 := Lib.hid (show OwA w a (.slice P1 a.path.length pc1) (.slice C2 a.comms.length cc2) (.slice R4 a.raws.length rc4) W5 from
        ⟨S4.bel.grown hg5 hBs4 (fun k hk => by cases hk; exact Nat.le_refl _), by rw [hW5]; exact S4.blk.set 10 _, S4.res.grown hg5 (by omega), Nat.le_trans S4.lt hg5.size⟩)
      have K5 := Lib.hid (K4.keep S4.blk (by decide) (by decide) (Nat.le_refl _) hBs4 hg5)
      have O5 := Lib.hid (row_keep O4 S4.blk (by decide) hg5)
      have R5 := Lib.hid (show RawK w.heap.size W5 (.slice R4 a.raws.length rc4) a.raws from ⟨row_keep ⟨hor.1, hor.2.imp id fun ⟨g, cap, cur, q1, q2, q3⟩ => ⟨g, cap, cur, q1, Nat.le_trans S3.out.bel.size q2, q3⟩⟩ S4.blk (by decide) hg5, fun s hs => ⟨.inl (by
        obtain ⟨j, hj⟩ := List.getElem?_of_mem hs
        obtain ⟨b, off, _, _, hall⟩ := (HIN.out _ S5.out.bel).raws (by intro e; rw [e] at hj; simp at hj)
        exact (hall j s hj).2.2.2), HE.out s hs⟩⟩)
      have HC5 := Lib.hid (And.intro f1 f2); have HW5 := Lib.hid hW5
      have d10 : W5.cell? ⟨w.heap.size, 10, none⟩ = some (.slice R4 a.raws.length rc4) := S5.out.blk.cell 10
      clear hb4 hor hg5 f1 f2 hW5 S4 K4 O4 QR2 S3 K3 O3 c10
      go_wp2_with (rw [← HW5.out])
      go_loopw [39] (fun i wr => ∃ (j : Nat) (L : List Rw), j ≤ a.raws.length ∧ i = .int .i64 (j : Int) ∧ Hid (OwA w a (.slice P1 a.path.length pc1) (.slice C2 a.comms.length cc2) (.slice R4 a.raws.length rc4) wr) ∧ Hid (PathD w.heap.size wr (.slice P1 a.path.length pc1) M) ∧ Hid (Own32 wr w.heap.size (.slice C2 a.comms.length cc2) a.comms) ∧ Hid (RawK w.heap.size wr (.slice R4 a.raws.length rc4) L) ∧ Hid (L.length = a.raws.length ∧ L.map Rw.abs = a.raws.map Rw.abs) ∧ Hid (∀ (i : Nat) (s : Rw), i < j → L[i]? = some s → Own wr w.heap.size 5 (.slice s.adr s.data.length s.cap) s.data)) (fun i _ => a.raws.length - (intOf i).toNat)
      case atStart => exact ⟨0, a.raws, Nat.zero_le _, rfl, S5, K5, O5, R5, Lib.hid ⟨rfl, rfl⟩, Lib.hid (fun i s hi => by omega)⟩
      case round =>
        obtain ⟨j, L, hj, rfl, S, K, O, R, HLm, HDN⟩ := hrel
        by_cases hlt : j < a.raws.length
        · have hmn := HLm.out.1
          obtain ⟨s, hs⟩ : ∃ s, L[j]? = some s := ⟨_, List.getElem?_eq_getElem (by omega)⟩
          have krow := R.out.row
          rw [hmn] at krow
          obtain ⟨g, rfl⟩ := own_at0 krow (by omega)
          obtain ⟨q1, q2, q3⟩ := flatR_at L j s hs
          have k1 := World.ownsRow.cells R.out.row (g := g) rfl _ _ q1
          have k2 := World.ownsRow.cells R.out.row (g := g) rfl _ _ q2
          have k3 := World.ownsRow.cells R.out.row (g := g) rfl _ _ q3
          rw [Addr.add_lit, Nat.zero_add] at k1 k2 k3
          obtain ⟨cs, kb, hB⟩ := own_row_blk krow
          have hge : w.heap.size + 2 ≤ g := by
            have h1 : g ≠ w.heap.size := fun e => by subst e; have := kb.symm.trans S.out.blk; simp at this
            have h2 : g ≠ w.heap.size + 1 := fun e => by rw [e] at kb; have := kb.symm.trans S.out.res; simp at this
            omega
          have hok := (R.out.each s (List.mem_of_getElem? hs)).at S.out.bel.size
          have hcp := (R.out.each s (List.mem_of_getElem? hs)).2
          obtain ⟨W6, hW6⟩ : ∃ W6, W6 = wr.alloc (.cells #[.int .i64 s.flags, .int .i64 s.ty, .slice s.adr s.data.length s.cap] 77) := ⟨_, rfl⟩
          have hb6 : Below wr.heap.size wr W6 := by rw [hW6]; exact (Below.refl _ _).alloc (Nat.le_refl _) _
          have kp : Blk W6 wr.heap.size 77 [.int .i64 s.flags, .int .i64 s.ty, .slice s.adr s.data.length s.cap] := by rw [hW6]; exact Blk.new wr _ _
          have hsl : s.data.length ≤ 1000000 := by
            have hm := HLm.out.2
            have : (s.flags, s.ty, s.data) ∈ a.raws.map Rw.abs := by rw [← hm]; exact List.mem_map.2 ⟨s, List.mem_of_getElem? hs, rfl⟩
            obtain ⟨s2, h2, h3⟩ := List.mem_map.1 this
            have h4 := HL.out.2.2.2.2 s2 h2
            simp only [Rw.abs, Prod.mk.injEq] at h3
            rw [← h3.2.2]; exact h4
          have QC := fun (W : World) (q : Below W6.heap.size W6 W) => Lib.hid (Clone_any s.adr s.data.length s.cap s.data rfl W ((At.below (At.below hok hb6 (Nat.le_refl _)) q hb6.size).lift (Nat.le_trans hb6.size q.size)) hsl)
          have S6 := Lib.hid (S.out.below hb6)
          have HK3 := Lib.hid (show W6.cell? ⟨g, j * 3 + 2, none⟩ = some (.slice s.adr s.data.length s.cap) from (hb6.cell (p := ⟨g, j * 3 + 2, none⟩) kb.lt).trans k3)
          have K6 := Lib.hid (K.out.below hb6 S.out.bel.size); have O6 := Lib.hid (O.out.below hb6); have R6 := Lib.hid (R.out.below hb6 S.out.bel.size)
          have kb6 := Lib.hid (kb.below hb6 kb.lt)
          have HS := Lib.hid (fun (w' : World) (q : Below W6.heap.size W6 w') => And.intro (show w'.cell? ⟨w.heap.size, 10, none⟩ = some (.slice (some ⟨g, 0, none⟩) a.raws.length rc4) from (S6.out.below q).blk.cell 10) (show w'.cell? ⟨wr.heap.size, 2, none⟩ = some (.slice s.adr s.data.length s.cap) from (kp.below q kp.lt).cell 2))
          have hb6d : Below W6.heap.size W6 W6.drew := (Below.refl _ _).drew
          have HSJ := Lib.hid hs; have HGE := Lib.hid hge; have HW6 := Lib.hid hW6; have HJ := Lib.hid hlt; have HCP := Lib.hid hcp
          have hjn : (j : Int) < (a.raws.length : Int) := by omega
          have hne : g ≠ wr.heap.size := by have := kb.lt; omega
          clear hs krow q1 q2 q3 hok hW6 hb6 hsl hge hcp
          go_wp2_with fail
          rw [← HW6.out]
          have hh := HS.out _ hb6d
          go_region_held3 (fun w' => w'.cell? ⟨w.heap.size, 10, none⟩ = some (.slice (some ⟨g, 0, none⟩) a.raws.length rc4) ∧ w'.cell? ⟨wr.heap.size, 2, none⟩ = some (.slice s.adr s.data.length s.cap)) (first | exact HS.out _ hb6d | exact HS.out _ hb7 | exact HSET.out) ((first
            | (go_at_call 54; refine (QC _ hb6d).out.mono ?_; rintro e w7 ⟨A2, c2, rfl, f1, f2, ho2, hg2⟩; have hb7 := hb6d.trans (hg2.mono hb6d.size); have kb7 := kb6.out.below hb7 kb6.out.lt; have fr7 := kb7.free (j * 3 + 2); have ck7 : w7.cell? ⟨g, j * 3 + 2, none⟩ = some (.slice s.adr s.data.length s.cap) := (((kb6.out.below hb7 kb6.out.lt).cell (j * 3 + 2)).trans ((kb6.out.cell (j * 3 + 2)).symm.trans HK3.out)); have S7 := Lib.hid (S6.out.below hb7); have hset : w7.grownBy (w7.setCell ⟨g, j * 3 + 2, none⟩ (.slice A2 s.data.length c2)) (some g) := grown_setCell (grown_refl _ _) _ _; have S8 := Lib.hid (S7.out.grown hset HGE.out); have HSET := Lib.hid (And.intro (show (w7.setCell ⟨g, j * 3 + 2, none⟩ (.slice A2 s.data.length c2)).cell? ⟨w.heap.size, 10, none⟩ = some (.slice (some ⟨g, 0, none⟩) a.raws.length rc4) from S8.out.blk.cell 10) (show (w7.setCell ⟨g, j * 3 + 2, none⟩ (.slice A2 s.data.length c2)).cell? ⟨wr.heap.size, 2, none⟩ = some (.slice s.adr s.data.length s.cap) from (((kp.below hb7 kp.lt)).grown hset (Ne.symm hne)).cell 2)); have HO2 := Lib.hid ho2; have HF2 := Lib.hid (And.intro f1 f2); have HB7 := Lib.hid hb7; clear ho2 f1 f2)))
          go_wp2_with fail
          go_roundw
          case rel =>
            have hmm := HLm.out
            have hwr := wrap_up HJ.out HL.out.2.2.2.1
            have hws : wr.heap.size ≤ W6.heap.size := by rw [HW6.out]; simp
            have hB6 : w.heap.size ≤ W6.heap.size := Nat.le_trans S.out.bel.size hws
            have R7 := R6.out.below HB7.out hB6
            have K7 := K6.out.below HB7.out hB6
            have O7 := O6.out.below HB7.out
            have hBs : w.heap.size ≤ w7.heap.size := S7.out.bel.size
            have hrow7 := R7.row
            rw [hmm.1] at hrow7
            have kbb := kb6.out.below HB7.out kb6.out.lt
            have hset : w7.grownBy (w7.setCell ⟨g, j * 3 + 2, none⟩ (.slice A2 s.data.length c2)) (some g) := grown_setCell (grown_refl _ _) _ _
            have hlen2 : (L.set j ⟨s.flags, s.ty, A2, c2, s.data⟩).length = a.raws.length := by rw [List.length_set]; exact hmm.1
            refine ⟨j + 1, L.set j ⟨s.flags, s.ty, A2, c2, s.data⟩, HJ.out, by rw [hwr]; rfl, S8, Lib.hid (K7.keep kbb (by decide) (by decide) hB hBs hset), Lib.hid (row_keep O7 kbb (by decide) hset), Lib.hid ⟨?_, fun x hx => ?_⟩, Lib.hid ⟨hlen2, by rw [rw_abs_same L j s A2 c2 HSJ.out]; exact hmm.2⟩, Lib.hid (fun i x hi hx => ?_)⟩
            · rw [hlen2, ← flatR_set L j s A2 c2 HSJ.out]
              exact own_setCell _ hrow7 (lt_three HJ.out)
            · rcases List.mem_or_eq_of_mem_set hx with hx | rfl
              · exact (R7.each x hx).keep kbb (by decide) hB hBs hset
              · exact ⟨.inr (Own.lower (row_keep HO2.out kbb (by decide) hset) (Nat.le_trans hB6 (by simp))), HF2.out.1, HF2.out.2⟩
            · by_cases hij : i = j
              · subst hij
                rw [List.getElem?_set_self (by rw [HLm.out.1]; exact HJ.out)] at hx
                obtain rfl := Option.some.inj hx
                exact Own.lower (row_keep HO2.out kbb (by decide) hset) (Nat.le_trans hB6 (by simp))
              · rw [List.getElem?_set_ne (Ne.symm hij)] at hx
                have hq := HDN.out i x (Nat.lt_of_le_of_ne (Nat.le_of_lt_succ hi) hij) hx
                have hb67 : Below wr.heap.size wr w7 := by
                  have h1 : Below wr.heap.size wr W6 := by rw [HW6.out]; exact (Below.refl _ _).alloc (Nat.le_refl _) _
                  exact h1.trans (HB7.out.mono h1.size)
                exact row_keep (row_below hq hb67) kbb (by decide) hset
          case measure => exact meas_up _ _ HJ.out HL.out.2.2.2.1
        · obtain rfl : j = a.raws.length := by omega
          have hm := HM.out; have hlm := HLm.out
          obtain ⟨x, hx⟩ : ∃ x : Av, x = ⟨a.org, P1, pc1, M, a.next, a.med, a.pref, a.atomic, a.has, a.aas, a.aad, C2, cc2, a.comms, R4, rc4, L⟩ := ⟨_, rfl⟩
          have hrow : x.row = [.int .i64 a.org, .slice P1 a.path.length pc1, .int .u32 a.next, .int .i64 a.med, .int .i64 a.pref, .bool a.atomic, .bool a.has, .int .u32 a.aas, .int .u32 a.aad, .slice C2 a.comms.length cc2, .slice R4 a.raws.length rc4] := by
            rw [hx]
            unfold Av.row
            dsimp only
            rw [hm.1, hlm.1]
          have HXV := Lib.hid (av_blk (show Blk wr w.heap.size 28 x.row by rw [hrow]; exact S.out.blk))
          have HROW := Lib.hid hrow; have HX := Lib.hid hx
          clear hrow hx hlt hj
          go_wp2_with (first
            | (refine wpList_loadA _ rfl (.tmp 1) rfl w.heap.size 0 x rfl HXV.out ?_)
            | (refine wpList_storeA5 _ rfl rfl (.tmp 2) (.tmp 53) rfl (w.heap.size + 1) 28 zeroRow0 x rfl rfl S.out.res rfl ?_))
          intro w9 k9 hg9
          have hBs := S.out.bel.size
          have kx9 := k9
          rw [HROW.out] at kx9
          have HRA := Lib.hid (cells11 kx9)
          have BF := Lib.hid (S.out.bel.grown hg9 hBs (fun k hk => by cases hk; omega))
          have K9 := Lib.hid (K.out.keeps S.out.res (by decide) (by decide) hg9)
          have O9 := Lib.hid (row_keep O.out S.out.res (by decide) hg9)
          have R9 := Lib.hid (RawD.keeps (show RawD w.heap.size wr (.slice R4 a.raws.length rc4) L from ⟨R.out.row, fun s hs => by
            obtain ⟨i, hi⟩ := List.getElem?_of_mem hs
            have hil : i < L.length := (List.getElem?_eq_some_iff.1 hi).1
            rw [HLm.out.1] at hil
            exact ⟨HDN.out i s hil hi, (R.out.each s hs).2⟩⟩) S.out.res (by decide) (by decide) hg9)
          clear k9 kx9 hg9
          go_wp2_with fail
          have ra := HRA.out
          have e := HX.out
          have hro := HROW.out
          have hm := HM.out; have hlm := HLm.out
          refine bodyPost_ret (v := .agg #[.int .i64 a.org, .slice P1 a.path.length pc1, .int .u32 a.next, .int .i64 a.med, .int .i64 a.pref, .bool a.atomic, .bool a.has, .int .u32 a.aas, .int .u32 a.aad, .slice C2 a.comms.length cc2, .slice R4 a.raws.length rc4]) ?_ rfl ⟨x, by rw [hro], ?_, BF.out, by rw [e], by rw [e]; exact hm.2, by rw [e], by rw [e], by rw [e], by rw [e], by rw [e], by rw [e], by rw [e], by rw [e], by rw [e]; exact hlm.2⟩
          · simp [results, Tryz.results68, go_sem, ra]
          · rw [e]
            exact ⟨⟨_, by show PathD _ _ (.slice P1 M.length pc1) M; rw [hm.1]; exact K9.out⟩, by show M.length ≤ pc1 ∧ _; rw [hm.1]; exact HC1.out, ⟨_, O9.out⟩, HC3.out, ⟨_, by show RawD _ _ (.slice R4 L.length rc4) L; rw [hlm.1]; exact R9.out⟩, by show L.length ≤ rc4 ∧ _; rw [hlm.1]; exact HC5.out⟩
end Go.Proofs.YtnaangnmlbgmkaaGreatDoor

/-
  Open: a cursor more; one goes, if there are too many.
-/
import Derived.Test.YtgaoonnokhlgjaaSet26
import Derived.Test.YtgaoonnokhlgjaaGoO26
import Derived.Deep.RegionLaw
import Derived.Deep.RegionHeld3
namespace Go.Proofs.Ytgaoonnokhlgjaa
set_option linter.unusedVariables false
set_option linter.unusedSimpArgs false
open Go.RowKit

theorem step_appU {P : Program} {ops : Array Oper} {o : Oper} {a : Act} {Q : Exit → Act → World → Prop} {K9 : Act → World → Prop} {E : Prop} {T S : Nat} (hS : P.underlying S = some (.slice T)) (hi0 : (P.info? T).map (fun i => (i.zero, i.size, i.bytes)) = some (some zeroCu, 16, 152)) (w : World) (hgd : o.guard = none) (s x : Operand) (ho : o.op = .call { callee := .builtin .append, args := #[s, x], argTypes := #[S, S] })
    (B : Nat) (v : Value) (M K : List Cu) (hs : a.eval s = v) (h : OwnU w T B v M) (hB : B ≤ w.heap.size) (ad : Addr) (m c : Nat) (hx : a.eval x = .slice (some ad) m c) (hm : K.length = m) (hK : ∀ j z, (flatU K)[j]? = some z → w.cell? (ad.add j) = some z) (hl : M.length + m ≤ 100000)
    (h9 : ∀ v' w', OwnU w' T B v' (M ++ K) → w.grownBy w' v.ownBlock → (v'.ownBlock = v.ownBlock ∨ ∀ k, v'.ownBlock = some k → w.heap.size ≤ k) → K9 (a.put o.dst v') w') : if Region.wanted o (yielded ops a.tmps) = true then Oper.wp P o a w K9 Q else E := by
  have hw : Region.wanted o (yielded ops a.tmps) = true := by simp [Region.wanted, hgd]
  rw [if_pos hw]
  obtain ⟨i, hi, hz0, hz1, hz2⟩ := info_parts hi0
  subst hm
  obtain ⟨v', w', hr, h2, h3, h4, h5⟩ := run_append_own_at (P := P) w B S o.type T i _ 16 152 hS hi hz0 hz1 hz2 rfl (by decide) v M.length (flatU M) h ad K.length c (flatU K) (flatU_len K) hK (flatU_ones _) (by unfold maxLen; omega) (by omega) hB
  have hown' : OwnU w' T B v' (M ++ K) := by
    unfold OwnU
    rw [flatU_app, List.length_append]
    exact h2
  have hloc : v'.ownBlock = v.ownBlock ∨ ∀ k, v'.ownBlock = some k → w.heap.size ≤ k := by
    rcases h5 with e | e
    · exact .inl e
    · exact .inr fun k hk => by rw [e] at hk; cases hk; exact Nat.le_refl _
  unfold Oper.wp
  simp [execOp, ho, resolve, invoke, builtin, hs, hx, hr, Result.andThen]
  exact h9 v' w' hown' h3 hloc
theorem cells16 {w : World} {g T : Nat} {c : Cu} (h : Blk w g T c.row) : w.cell? ⟨g, 0, none⟩ = some (.int .i64 c.id) ∧ w.cell? ⟨g, 1, none⟩ = some (.int .i64 c.owner) ∧ w.cell? ⟨g, 2, none⟩ = some (.int .i64 c.ver) ∧ w.cell? ⟨g, 3, none⟩ = some (.int .i64 c.kind) ∧ w.cell? ⟨g, 4, none⟩ = some (.int .i64 c.mode) ∧ w.cell? ⟨g, 5, none⟩ = some (.int .u32 c.qa) ∧ w.cell? ⟨g, 6, none⟩ = some (.int .i64 c.ql) ∧ w.cell? ⟨g, 7, none⟩ = some (.int .i64 c.table) ∧ w.cell? ⟨g, 8, none⟩ = some (.int .i64 c.peer) ∧ w.cell? ⟨g, 9, none⟩ = some (.string c.regex) ∧ w.cell? ⟨g, 10, none⟩ = some (.slice c.commsA c.comms.length c.commsC) ∧ w.cell? ⟨g, 11, none⟩ = some (.int .i64 c.cur) ∧ w.cell? ⟨g, 12, none⟩ = some (.bool c.out) ∧ w.cell? ⟨g, 13, none⟩ = some (.int .u32 c.aa) ∧ w.cell? ⟨g, 14, none⟩ = some (.int .i64 c.al) ∧ w.cell? ⟨g, 15, none⟩ = some (.int .i64 c.age) :=
  ⟨h.cell 0, h.cell 1, h.cell 2, h.cell 3, h.cell 4, h.cell 5, h.cell 6, h.cell 7, h.cell 8, h.cell 9, h.cell 10, h.cell 11, h.cell 12, h.cell 13, h.cell 14, h.cell 15⟩
def openedU (c : Cu) (n : Int) : Cu := { c with id := n, age := 0 }
def leastId (L : List Cu) : Int := match L.head? with
  | some c => c.id
  | none => 0
def overU (mo : Int) (L : List Cu) (c : Cu) : Bool := decide (mo < (L.length : Int)) && (c.id == leastId L)
theorem first_of {w : World} {T B n d : Nat} {A : Option Addr} {M : List Cu} {y : Cu} (h : OwnU w T B (.slice A n d) M) (hy : M[0]? = some y) : ∃ b, A = some ⟨b, 0, none⟩ ∧ w.cell? ⟨b, 0, none⟩ = some (.int .i64 y.id) := by
  obtain ⟨b, d', hv, _, _, _, _, hr, _⟩ := h.at hy
  injection hv with hA
  exact ⟨b, hA, by have := hr 0 _ rfl; simpa using this⟩
theorem OpenNil26 (c : Cu) (w : World) :
    Calls Try.prog 11 #[.pointer none, aggS c.row] w fun e w' => e = .returned (.tuple #[.int .i64 0, .slice none 0 0]) ∧ Below w.heap.size w w' := by
  go_enter Try.func11, Try.ntmps11
  go_wp2_with (refine wpList_boxS _ rfl (.tmp 1) rfl (run_boxP26 _ c) rfl ?_)
  intro w1 k1 hb1 hz1
  have HB := Lib.hid hb1
  clear k1 hb1 hz1
  go_wp2_with fail
  go_ret2
  exact ⟨rfl, HB.out⟩
def RetOpen (w : World) (g : Nat) (mo li la : Int) (v : Value) (L G : List Cu) (n : Int) (e : Ending) (w' : World) : Prop :=
  ∃ u v', e = .returned (.tuple #[.int .i64 n, u]) ∧ Tab w' g mo li la v' L ∧ SlU w' 36 w.heap.size u G ∧ KeepA w w' g v v'
set_option maxRecDepth 100000 in
set_option maxHeartbeats 12800000 in
theorem Open26_any (g : Nat) (mo li la : Int) (v : Value) (L : List Cu) (c : Cu) (w : World) (h : Tab w g mo li la v L) (hla : 0 ≤ la ∧ la ≤ 1000000) (hl : L.length ≤ 90) (hmo : 0 ≤ mo ∧ mo ≤ 8) :
    Calls Try.prog 11 #[.pointer (some ⟨g, 0, none⟩), aggS c.row] w (RetOpen w g mo li (la + 1) v ((L ++ [openedU c (la + 1)]).filter fun x => !overU mo (L ++ [openedU c (la + 1)]) x) ((L ++ [openedU c (la + 1)]).filter fun x => overU mo (L ++ [openedU c (la + 1)]) x) (la + 1)) := by
  have HT := Lib.hid h; have HL := Lib.hid hl
  have hw1 : wrap64 (la + 1) = la + 1 := by unfold wrap64; omega
  obtain ⟨A, d, rfl, hd1, hd2⟩ := h.own.form
  clear h hl
  go_enter Try.func11, Try.ntmps11
  go_wp2_with (refine wpList_boxS _ rfl (.tmp 1) rfl (run_boxP26 _ c) rfl ?_)
  intro w1 k1 hb1 hz1
  have hT1 := HT.out.below hb1
  have hgl := HT.out.lt
  have hne : ¬ (g = w.heap.size) := by omega
  have hne' : ¬ (w.heap.size = g) := by omega
  obtain ⟨c0, c1, c2, c3⟩ := cells4 hT1.blk
  obtain ⟨f0, f1, f2, f3⟩ := free4 hT1.blk
  have b0 : w1.cell? ⟨w.heap.size, 0, none⟩ = some (.int .i64 c.id) := k1.cell 0
  have b15 : w1.cell? ⟨w.heap.size, 15, none⟩ = some (.int .i64 c.age) := k1.cell 15
  have z0 : w1.frozen? ⟨w.heap.size, 0, none⟩ = false := k1.free 0
  have z15 : w1.frozen? ⟨w.heap.size, 15, none⟩ = false := k1.free 15
  obtain ⟨W2, hW2⟩ : ∃ W2, W2 = ((w1.setCell ⟨g, 2, none⟩ (.int .i64 (la + 1))).setCell ⟨w.heap.size, 0, none⟩ (.int .i64 (la + 1))).setCell ⟨w.heap.size, 15, none⟩ (.int .i64 0) := ⟨_, rfl⟩
  have kN : Blk W2 w.heap.size 36 (openedU c (la + 1)).row := by
    rw [hW2]
    exact ((k1.grown (grown_setCell (grown_refl w1 (some g)) 2 _) hne').set 0 (.int .i64 (la + 1))).set 15 (.int .i64 0)
  have gN : (w1.setCell ⟨g, 2, none⟩ (.int .i64 (la + 1))).grownBy W2 (some w.heap.size) := by
    rw [hW2]
    exact grown_setCell (grown_setCell (grown_refl _ _) 0 _) 15 _
  have hown2 : OwnU W2 36 (g + 1) (.slice A L.length d) L := by
    refine World.ownsRow.kept (World.ownsRow.kept hT1.own (grown_setCell (grown_refl w1 (some g)) 2 (.int .i64 (la + 1))) (ne_blk26 (fun k hk => (hT1.own.lt k hk).1) (Nat.lt_succ_self _))) gN (.inr fun e => ?_)
    have := (HT.out.own.lt _ e).2
    omega
  have kg : Blk W2 g 67 [.int .i64 mo, .int .i64 li, .int .i64 (la + 1), .slice A L.length d] := (hT1.blk.set 2 (.int .i64 (la + 1))).grown gN hne
  have hk2 : KeepA w W2 g (.slice A L.length d) (.slice A L.length d) := by
    refine ⟨gN.os.trans hb1.os, gN.tape.trans hb1.tape, gN.output.trans hb1.output, by have := gN.size; simp at this; omega, fun k hk h1 h2 => ?_, .inl rfl⟩
    refine (gN.block k (by simp; omega) (by simp; omega)).trans ((Below.heap_setCell w1 ⟨g, 2, none⟩ _ k (by simpa using h1)).trans (hb1.block k hk))
  have HKN := Lib.hid kN; have HO2 := Lib.hid hown2; have HKG := Lib.hid kg; have HK2 := Lib.hid hk2; have HW2 := Lib.hid hW2
  have HZ2 := Lib.hid (show w.heap.size + 1 ≤ W2.heap.size from kN.lt)
  clear kN gN hown2 kg hk2 hW2 k1 hb1 hz1 hT1
  go_wp2_with fail
  rw [← HW2.out]
  clear c0 c1 c2 c3 f0 f1 f2 f3 b0 b15 z0 z15 HW2
  obtain ⟨x, hx⟩ : ∃ x, x = openedU c (la + 1) := ⟨_, rfl⟩
  have hxid : x.id = la + 1 := by rw [hx]; rfl
  rw [← hx] at HKN
  have HXE := Lib.hid hx
  clear hx
  obtain ⟨q0, q1, q2, q3, q4, q5, q6, q7, q8, q9, q10, q11, q12, q13, q14, q15⟩ := cells16 HKN.out
  obtain ⟨c0, c1, c2, c3⟩ := cells4 HKG.out
  obtain ⟨f0, f1, f2, f3⟩ := free4 HKG.out
  have HXI := Lib.hid hxid
  clear hxid
  have hal := (Below.refl W2.heap.size W2).alloc (Nat.le_refl _) (.cells x.row.toArray 36)
  have HOA := Lib.hid (show OwnU (W2.drew.alloc (.cells x.row.toArray 36)) 36 (g + 1) (.slice A L.length d) L from HO2.out.below (w' := W2.drew.alloc (.cells x.row.toArray 36)) hal.drew)
  have HKA := Lib.hid (show Blk (W2.drew.alloc (.cells x.row.toArray 36)) g 67 [.int .i64 mo, .int .i64 li, .int .i64 (la + 1), .slice A L.length d] from HKG.out.below (w' := W2.drew.alloc (.cells x.row.toArray 36)) hal.drew HKG.out.lt)
  have HNA := Lib.hid (show Blk (W2.drew.alloc (.cells x.row.toArray 36)) w.heap.size 36 x.row from HKN.out.below (w' := W2.drew.alloc (.cells x.row.toArray 36)) hal.drew HKN.out.lt)
  have HVG := Lib.hid (show some g ≠ (Value.slice A L.length d).ownBlock from fun e => by have := (HT.out.own.lt _ e.symm).1; omega)
  have HVN := Lib.hid (show some w.heap.size ≠ (Value.slice A L.length d).ownBlock from fun e => by have := (HT.out.own.lt _ e.symm).2; omega)
  have HBA := Lib.hid (show Below W2.heap.size W2 (W2.drew.alloc (.cells x.row.toArray 36)) from hal.drew)
  have a3 : (W2.alloc (.cells #[.int .i64 x.id, .int .i64 x.owner, .int .i64 x.ver, .int .i64 x.kind, .int .i64 x.mode, .int .u32 x.qa, .int .i64 x.ql, .int .i64 x.table, .int .i64 x.peer, .string x.regex, .slice x.commsA x.comms.length x.commsC, .int .i64 x.cur, .bool x.out, .int .u32 x.aa, .int .i64 x.al, .int .i64 x.age] 36)).cell? ⟨g, 3, none⟩ = some (.slice A L.length d) := HKA.out.cell 3
  clear hal
  go_region_law ((refine step_appU undP infoP26 _ (by rfl) (.tmp 27) (.tmp 29) (by rfl) (g + 1) (.slice A L.length d) L [x] (by rfl) HOA.out (by have := HZ2.out; simp; omega) ⟨W2.heap.size, 0, none⟩ 1 1 (by rfl) rfl (cu_one W2.drew _ x) (by have := HL.out; omega) ?_; intro v4 w4 h4 hg4 hl4; have hk4 : Blk w4 g 67 [.int .i64 mo, .int .i64 li, .int .i64 (la + 1), .slice A L.length d] := (hg4.block g HKA.out.lt HVG.out).trans HKA.out; have hn4 : Blk w4 w.heap.size 36 x.row := (hg4.block w.heap.size HNA.out.lt HVN.out).trans HNA.out; have t3 : w4.cell? ⟨g, 3, none⟩ = some (.slice A L.length d) := hk4.cell 3; have y3 : w4.frozen? ⟨g, 3, none⟩ = false := hk4.free 3; obtain ⟨A4, d4, rfl, r1, r2⟩ := h4.form; have HO4 := Lib.hid h4; have HG4 := Lib.hid hg4; have HL4 := Lib.hid hl4; have HK4 := Lib.hid hk4; have HN4 := Lib.hid hn4; clear h4 hg4 hl4 hk4 hn4 r1 r2))
  all_goals
    clear c0 c1 c2 c3 f0 f1 f2 f3 q0 q1 q2 q3 q4 q5 q6 q7 q8 q9 q10 q11 q12 q13 q14 q15 a3 t3 y3
    obtain ⟨W5, hW5⟩ : ∃ W5, W5 = w4.setCell ⟨g, 3, none⟩ (.slice A4 (L.length + 1) d4) := ⟨_, rfl⟩
    rw [← hW5]
    have hg5 : w4.grownBy W5 (some g) := by rw [hW5]; exact grown_setCell (grown_refl _ _) 3 _
    have kg5 : Blk W5 g 67 [.int .i64 mo, .int .i64 li, .int .i64 (la + 1), .slice A4 (L.length + 1) d4] := by rw [hW5]; exact HK4.out.set 3 _
    have el : (L ++ [x]).length = L.length + 1 := by simp
    have o5 : OwnU W5 36 (g + 1) (.slice A4 (L.length + 1) d4) (L ++ [x]) := by
      have h4 := HO4.out
      rw [el] at h4
      exact World.ownsRow.kept h4 hg5 (ne_blk26 (fun k hk => (h4.lt k hk).1) (Nat.lt_succ_self _))
    have kn5 : Blk W5 w.heap.size 36 x.row := HN4.out.grown hg5 hne'
    have kp5 : KeepA w W5 g (.slice A L.length d) (.slice A4 (L.length + 1) d4) := by
      have k4 : KeepA W2 w4 g (.slice A L.length d) (.slice A4 (L.length + 1) d4) := by
        refine ⟨HG4.out.os.trans HBA.out.os, HG4.out.tape.trans HBA.out.tape, HG4.out.output.trans HBA.out.output, Nat.le_trans HBA.out.size HG4.out.size, fun k hk h1 h2 => (HG4.out.block k (Nat.lt_of_lt_of_le hk HBA.out.size) (fun e => h2 e.symm)).trans (HBA.out.block k hk), ?_⟩
        rcases HL4.out with e | e
        · left
          rw [el] at e
          exact e
        · right
          rw [el] at e
          exact fun k hk => Nat.le_trans HBA.out.size (e k hk)
      exact (HK2.out.trans k4).trans (KeepA.of_grown hg5 (.inl rfl))
    have HS5 := Lib.hid (Nat.le_trans (Nat.le_trans HZ2.out HBA.out.size) (Nat.le_trans HG4.out.size hg5.size))
    have hT5 : Tab W5 g mo li (la + 1) (.slice A4 (L.length + 1) d4) (L ++ [x]) := ⟨kg5, o5, by rw [el]; have := HL.out; omega⟩
    obtain ⟨y, hy⟩ : ∃ y, (L ++ [x])[0]? = some y := ⟨_, List.getElem?_eq_getElem (by rw [el]; omega)⟩
    obtain ⟨b4, rfl, r0⟩ := first_of o5 hy
    obtain ⟨c0, c1, c2, c3⟩ := cells4 kg5
    have hi1 : (0 : Int) < ((L.length + 1 : Nat) : Int) := by omega
    have hi2 : (0 : Int) < (L.length : Int) + 1 := by omega
    have HLY := Lib.hid (show leastId (L ++ [x]) = y.id by unfold leastId; rw [List.head?_eq_getElem?, hy])
    have HT5 := Lib.hid hT5; have HKN5 := Lib.hid kn5; have HKP := Lib.hid kp5
    clear hW5 hg5 kg5 o5 kn5 kp5 hT5 hy HOA HKA HNA HBA HO4 HG4 HL4 HK4 HN4 HO2 HKG HKN HK2 el
    have hb6 := (Below.refl W5.heap.size W5).alloc (Nat.le_refl _) (.cells #[.int .i64 y.id] 3)
    have hb7 := hb6.alloc hb6.size (.cells #[.bool false] 4)
    obtain ⟨d0, d1, d2, d3⟩ := cells4 (HT5.out.blk.below hb6 HT5.out.lt)
    obtain ⟨e0, e1, e2, e3⟩ := cells4 (HT5.out.blk.below hb7 HT5.out.lt)
    clear hb6 hb7
    by_cases hov : mo < (L.length : Int) + 1
    · have HOV := Lib.hid (show decide (mo < ((L ++ [x]).length : Int)) = true by simpa using hov)
      go_wp2_with fail
      go_region
      all_goals
        have HP := Lib.hid (show ∀ z : Cu, (true && (z.id == y.id)) = overU mo (L ++ [x]) z from fun z => by unfold overU; rw [HLY.out, HOV.out])
        obtain ⟨W7, hW7⟩ : ∃ W7, W7 = ((W5.alloc (.cells #[.int .i64 y.id] 3)).alloc (.cells #[.bool true] 4)).drew := ⟨_, rfl⟩
        rw [← hW7]
        have hb7 : Below W5.heap.size W5 W7 := by rw [hW7]; exact (((Below.refl W5.heap.size W5).alloc (Nat.le_refl _) (.cells #[.int .i64 y.id] 3)).alloc (by simp) (.cells #[.bool true] 4)).drew
        have ky : Blk W7 W5.heap.size 3 [.int .i64 y.id] := by rw [hW7]; exact (Blk.new W5 3 [.int .i64 y.id]).below ((Below.refl _ _).alloc (Nat.le_refl _) _).drew (by simp)
        have kt : Blk W7 (W5.heap.size + 1) 4 [.bool true] := by
          have := Blk.new (W5.alloc (.cells #[.int .i64 y.id] 3)) 4 [.bool true]
          have e : (W5.alloc (.cells #[.int .i64 y.id] 3)).heap.size = W5.heap.size + 1 := by simp
          rw [e] at this
          rw [hW7]
          exact this
        have kn7 := HKN5.out.below hb7 HKN5.out.lt
        have HKN7 := Lib.hid kn7
        have q0 : W7.cell? ⟨w.heap.size, 0, none⟩ = some (.int .i64 x.id) := kn7.cell 0
        have Q := Lib.hid (letGoO_any (W5.heap.size + 1) W5.heap.size (overU mo (L ++ [x])) g mo li (la + 1) _ (L ++ [x]) W7.drew (HT5.out.below (w' := W7.drew) hb7.drew) (fun W hW z => by
          have := Open1_any z (W5.heap.size + 1) W5.heap.size true y.id W (Nat.lt_of_lt_of_le kt.lt hW.size) ((hW.cell (p := ⟨W5.heap.size + 1, 0, none⟩) kt.lt).trans (kt.cell 0)) (Nat.lt_of_lt_of_le ky.lt hW.size) ((hW.cell (p := ⟨W5.heap.size, 0, none⟩) ky.lt).trans (ky.cell 0))
          rw [HP.out z] at this
          exact this))
        have HKP7 := Lib.hid (HKP.out.trans (KeepA.of_below hb7))
        clear hW7 hb7 ky kt kn7 c0 c1 c2 c3 d0 d1 d2 d3 e0 e1 e2 e3 r0 HP HT5 HKN5 HKP
        obtain ⟨G, hGE⟩ : ∃ G, G = (L ++ [x]).filter (overU mo (L ++ [x])) := ⟨_, rfl⟩
        have HGE := Lib.hid hGE
        clear hGE
        go_wp2_with fail
        go_region_with ((go_at_call 28; refine Q.out.mono ?_; rintro e w9 ⟨u, v', rfl, ht, hs, hg, hv⟩; have n9 : w9.cell? ⟨w.heap.size, 0, none⟩ = some (.int .i64 x.id) := (Blk.grown (w := W7.drew) HKN7.out hg hne').cell 0; have HT9 := Lib.hid ht; have HS9 := Lib.hid (show SlU w9 36 w.heap.size u G from by rw [HGE.out]; exact hs.lower HKP7.out.size); have HK9 := Lib.hid (HKP7.out.trans (KeepA.of_grown (w := W7) (v' := v') ⟨hg.os, hg.tape, hg.output, hg.size, hg.block⟩ (.inr hv))); clear ht hs hg hv; obtain ⟨A9, d9, rfl, _⟩ := id HS9.out))
        all_goals
          go_wp2_with fail
          go_ret2
          rw [← HXE.out]
          have hge := HGE.out
          subst hge
          exact ⟨_, v', congrArg (fun z => Ending.returned (.tuple #[.int .i64 z, .slice A9 (List.filter (overU mo (L ++ [x])) (L ++ [x])).length d9])) HXI.out, HT9.out, HS9.out, HK9.out⟩
    · have HOV := Lib.hid (show decide (mo < ((L ++ [x]).length : Int)) = false by simpa using hov)
      go_wp2_with fail
      go_region
      all_goals
        have HP := Lib.hid (show ∀ z : Cu, (false && (z.id == y.id)) = overU mo (L ++ [x]) z from fun z => by unfold overU; rw [HLY.out, HOV.out])
        rw [show decide (mo < (L.length : Int) + 1) = false from decide_eq_false (by omega)]
        obtain ⟨W7, hW7⟩ : ∃ W7, W7 = ((W5.alloc (.cells #[.int .i64 y.id] 3)).alloc (.cells #[.bool false] 4)).drew := ⟨_, rfl⟩
        rw [← hW7]
        have hb7 : Below W5.heap.size W5 W7 := by rw [hW7]; exact (((Below.refl W5.heap.size W5).alloc (Nat.le_refl _) (.cells #[.int .i64 y.id] 3)).alloc (by simp) (.cells #[.bool false] 4)).drew
        have ky : Blk W7 W5.heap.size 3 [.int .i64 y.id] := by rw [hW7]; exact (Blk.new W5 3 [.int .i64 y.id]).below ((Below.refl _ _).alloc (Nat.le_refl _) _).drew (by simp)
        have kt : Blk W7 (W5.heap.size + 1) 4 [.bool false] := by
          have := Blk.new (W5.alloc (.cells #[.int .i64 y.id] 3)) 4 [.bool false]
          have e : (W5.alloc (.cells #[.int .i64 y.id] 3)).heap.size = W5.heap.size + 1 := by simp
          rw [e] at this
          rw [hW7]
          exact this
        have kn7 := HKN5.out.below hb7 HKN5.out.lt
        have HKN7 := Lib.hid kn7
        have q0 : W7.cell? ⟨w.heap.size, 0, none⟩ = some (.int .i64 x.id) := kn7.cell 0
        have Q := Lib.hid (letGoO_any (W5.heap.size + 1) W5.heap.size (overU mo (L ++ [x])) g mo li (la + 1) _ (L ++ [x]) W7.drew (HT5.out.below (w' := W7.drew) hb7.drew) (fun W hW z => by
          have := Open1_any z (W5.heap.size + 1) W5.heap.size false y.id W (Nat.lt_of_lt_of_le kt.lt hW.size) ((hW.cell (p := ⟨W5.heap.size + 1, 0, none⟩) kt.lt).trans (kt.cell 0)) (Nat.lt_of_lt_of_le ky.lt hW.size) ((hW.cell (p := ⟨W5.heap.size, 0, none⟩) ky.lt).trans (ky.cell 0))
          rw [HP.out z] at this
          exact this))
        have HKP7 := Lib.hid (HKP.out.trans (KeepA.of_below hb7))
        clear hW7 hb7 ky kt kn7 c0 c1 c2 c3 d0 d1 d2 d3 e0 e1 e2 e3 r0 HP HT5 HKN5 HKP
        obtain ⟨G, hGE⟩ : ∃ G, G = (L ++ [x]).filter (overU mo (L ++ [x])) := ⟨_, rfl⟩
        have HGE := Lib.hid hGE
        clear hGE
        go_wp2_with fail
        go_region_with ((go_at_call 28; refine Q.out.mono ?_; rintro e w9 ⟨u, v', rfl, ht, hs, hg, hv⟩; have n9 : w9.cell? ⟨w.heap.size, 0, none⟩ = some (.int .i64 x.id) := (Blk.grown (w := W7.drew) HKN7.out hg hne').cell 0; have HT9 := Lib.hid ht; have HS9 := Lib.hid (show SlU w9 36 w.heap.size u G from by rw [HGE.out]; exact hs.lower HKP7.out.size); have HK9 := Lib.hid (HKP7.out.trans (KeepA.of_grown (w := W7) (v' := v') ⟨hg.os, hg.tape, hg.output, hg.size, hg.block⟩ (.inr hv))); clear ht hs hg hv; obtain ⟨A9, d9, rfl, _⟩ := id HS9.out))
        all_goals
          go_wp2_with fail
          go_ret2
          rw [← HXE.out]
          have hge := HGE.out
          subst hge
          exact ⟨_, v', congrArg (fun z => Ending.returned (.tuple #[.int .i64 z, .slice A9 (List.filter (overU mo (L ++ [x])) (L ++ [x])).length d9])) HXI.out, HT9.out, HS9.out, HK9.out⟩
end Go.Proofs.Ytgaoonnokhlgjaa

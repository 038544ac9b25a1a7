/-
  The document's Open.
-/
import Derived.Test.YtgaoonnokhlgjaaRefT26
import Derived.Test.YtgaoonnokhlgjaaOpen26
namespace Go.Proofs.Ytgaoonnokhlgjaa
set_option linter.unusedVariables false
set_option linter.unusedSimpArgs false
open Go.RowKit

theorem wpList_appNil {P : Program} {ops : Array Oper} {rest : List Oper} {o : Oper} {a : Act} {Q : Exit → Act → World → Prop} {T S : Nat} (hS : P.underlying S = some (.slice T)) (hi0 : (P.info? T).map (fun i => (i.zero, i.size, i.bytes)) = some (some zeroCu, 16, 152)) (w : World) (hgd : o.guard = none) (s x : Operand) (ho : o.op = .call { callee := .builtin .append, args := #[s, x], argTypes := #[S, S] })
    (n c : Nat) (hn : n = 0) (hs : a.eval s = .slice none 0 0) (hx : a.eval x = .slice none n c) (hK : wpList P ops Q rest (a.put o.dst (.slice none 0 0)) w) : wpList P ops Q (o :: rest) a w := by
  subst hn
  obtain ⟨i, hi, hz0, hz1, hz2⟩ := info_parts hi0
  refine wpList_plain hgd fun K hK' => ?_
  have hrun : (Builtin.append_ #[S, S] o.type #[.slice none 0 0, .slice none 0 c]).run P w = .ok (.slice none 0 0) w := by
    simp [Builtin.append_, run_underlying hS, sizeOf, typeInfo, hi, Builtin.lenOf, Builtin.firstCells]
  unfold Oper.wp
  simp [execOp, ho, resolve, invoke, builtin, hs, hx, hrun, Result.andThen]
  exact hK' _ _ hK
theorem flatU_inv : ∀ (L : List Cu) (j : Nat) (u : Value), (flatU L)[j]? = some u → ∃ k i c, L[k]? = some c ∧ c.row[i]? = some u ∧ j = k * 16 + i
  | [], j, u, h => by simp [flatU_nil] at h
  | a :: L, j, u, h => by
    have hr : a.row.length = 16 := rfl
    rw [flatU_cons] at h
    by_cases hj : j < 16
    · rw [List.getElem?_append_left (by omega)] at h
      exact ⟨0, j, a, rfl, h, by omega⟩
    · rw [List.getElem?_append_right (by omega), hr] at h
      obtain ⟨k, i, c, h1, h2, h3⟩ := flatU_inv L (j - 16) u h
      exact ⟨k + 1, i, c, by simpa using h1, h2, by omega⟩
theorem RowsU.flat {w : World} {T B : Nat} {ad : Addr} {L : List Cu} (h : RowsU w T B (some ad) L) : ∀ j z, (flatU L)[j]? = some z → w.cell? (ad.add j) = some z := by
  intro j z hz
  obtain ⟨k, i, c, h1, h2, rfl⟩ := flatU_inv L j z hz
  obtain ⟨b, off, hA, _, hr⟩ := h.at h1
  cases hA
  rw [Addr.add_lit, ← Nat.add_assoc]
  exact hr i z h2
theorem rows_drop {w : World} {T B b d n : Nat} {M : List Cu} {AA : Option Addr} (h : OwnU w T B (.slice (some ⟨b, 0, none⟩) n d) M) (hd : M.length ≤ d) (hAA : (if d = 1 then (some ⟨b, 0, none⟩ : Option Addr) else some ⟨b, 16, none⟩) = AA) : RowsU w T B AA (M.drop 1) := by
  intro hne
  have hl : 2 ≤ M.length := by
    rcases Nat.lt_or_ge M.length 2 with h1 | h1
    · exact absurd (List.drop_eq_nil_of_le (by omega)) hne
    · exact h1
  rw [if_neg (by omega)] at hAA
  obtain ⟨b', off, hA, hB, hc, hr⟩ := h.rows (by intro e; subst e; simp at hl)
  injection hA with hA
  injection hA with hb ho
  subst hb; subst ho
  refine ⟨b, 16, hAA.symm, hB, hc, fun j s hj => ?_⟩
  rw [List.getElem?_drop] at hj
  have := hr (1 + j) s hj
  rwa [show 0 + (1 + j) * 16 = 16 + j * 16 by omega] at this
theorem rows_take {w : World} {T B b n d : Nat} {M : List Cu} (h : OwnU w T B (.slice (some ⟨b, 0, none⟩) n d) M) : RowsU w T B (some ⟨b, 0, none⟩) (M.take 1) := by
  intro hne
  obtain ⟨b', off, hA, hB, hc, hr⟩ := h.rows (by intro e; subst e; simp at hne)
  refine ⟨b', off, hA, hB, hc, fun j s hj => hr j s ?_⟩
  rw [List.getElem?_take] at hj
  split at hj
  · exact hj
  · cases hj
def RetRefO (w : World) (h : Nat) (mo li la : Int) (L G : List Cu) (n : Int) (e : Ending) (w' : World) : Prop :=
  ∃ u v', e = .returned (.tuple #[.int .i64 n, u]) ∧ RT w' h mo li la v' L ∧ SlU w' 45 0 u G ∧ w.grownBy w' (some h)
set_option maxRecDepth 100000 in
set_option maxHeartbeats 12800000 in
theorem RefOpen26_any (h : Nat) (mo li la : Int) (v : Value) (L : List Cu) (c : Cu) (L' G : List Cu) (w : World) (hT : RT w h mo li la v L) (hla : 0 ≤ la ∧ la ≤ 1000000) (hl : L.length ≤ 90)
    (hc : (mo < (L.length : Int) + 1 ∧ L' = (L ++ [openedU c (la + 1)]).drop 1 ∧ G = (L ++ [openedU c (la + 1)]).take 1) ∨ (¬ mo < (L.length : Int) + 1 ∧ L' = L ++ [openedU c (la + 1)] ∧ G = [])) :
    Calls Try.prog 12 #[.pointer (some ⟨h, 0, none⟩), aggS c.row] w (RetRefO w h mo li (la + 1) L' G (la + 1)) := by
  have HT := Lib.hid hT; have HL := Lib.hid hl; have HCS := Lib.hid hc
  have hw1 : wrap64 (la + 1) = la + 1 := by unfold wrap64; omega
  obtain ⟨A, d, rfl, hrows⟩ := hT.rows
  have HR := Lib.hid hrows
  clear hT hl hc hrows
  go_enter Try.func12, Try.ntmps12
  go_wp2_with (refine wpList_boxS _ rfl (.tmp 1) rfl (run_boxR26 _ c) rfl ?_)
  intro w1 k1 hb1 hz1
  have hT1 := HT.out.below hb1
  have hgl := HT.out.blk.lt
  have hne : ¬ (h = w.heap.size) := by omega
  have hne' : ¬ (w.heap.size = h) := by omega
  obtain ⟨c0, c1, c2, c3⟩ := cells4 hT1.blk
  obtain ⟨f0, f1, f2, f3⟩ := free4 hT1.blk
  have b0 : w1.cell? ⟨w.heap.size, 0, none⟩ = some (.int .i64 c.id) := k1.cell 0
  have b15 : w1.cell? ⟨w.heap.size, 15, none⟩ = some (.int .i64 c.age) := k1.cell 15
  have z0 : w1.frozen? ⟨w.heap.size, 0, none⟩ = false := k1.free 0
  have z15 : w1.frozen? ⟨w.heap.size, 15, none⟩ = false := k1.free 15
  obtain ⟨W2, hW2⟩ : ∃ W2, W2 = ((w1.setCell ⟨h, 2, none⟩ (.int .i64 (la + 1))).setCell ⟨w.heap.size, 0, none⟩ (.int .i64 (la + 1))).setCell ⟨w.heap.size, 15, none⟩ (.int .i64 0) := ⟨_, rfl⟩
  have kN : Blk W2 w.heap.size 45 (openedU c (la + 1)).row := by
    rw [hW2]
    exact ((k1.grown (grown_setCell (grown_refl w1 (some h)) 2 _) hne').set 0 (.int .i64 (la + 1))).set 15 (.int .i64 0)
  have gN : (w1.setCell ⟨h, 2, none⟩ (.int .i64 (la + 1))).grownBy W2 (some w.heap.size) := by
    rw [hW2]
    exact grown_setCell (grown_setCell (grown_refl _ _) 0 _) 15 _
  have kg : Blk W2 h 60 [.int .i64 mo, .int .i64 li, .int .i64 (la + 1), .slice A L.length d] := (hT1.blk.set 2 (.int .i64 (la + 1))).grown gN hne
  have hg2 : w.grownBy W2 (some h) := grown_past (grown_trans (grown_of_below hb1 (some h)) (grown_setCell (grown_refl w1 (some h)) 2 _)) gN (Nat.le_refl _)
  have hr2 : RowsU W2 45 0 A L := HR.out.grown HT.out.blk (by decide) hg2
  have HKN := Lib.hid kN; have HKG := Lib.hid kg; have HG2 := Lib.hid hg2; have HW2 := Lib.hid hW2; have HR2 := Lib.hid hr2
  have HZ2 := Lib.hid (show w.heap.size + 1 ≤ W2.heap.size from kN.lt)
  clear kN gN kg hW2 k1 hb1 hz1 hT1 hg2 hr2
  obtain ⟨x, hx⟩ : ∃ x, x = openedU c (la + 1) := ⟨_, rfl⟩
  have HXI := Lib.hid (show x.id = la + 1 from by rw [hx]; rfl)
  rw [← hx] at HKN HCS
  clear hx
  obtain ⟨M, hM⟩ : ∃ M, M = L ++ [x] := ⟨_, rfl⟩
  have HML := Lib.hid (show M.length = L.length + 1 from by rw [hM]; simp)
  rw [← hM] at HCS
  have HM := Lib.hid hM
  clear hM
  cases A with
  | none =>
    have HLN := Lib.hid (show L = [] from by
      rcases hL0 : L with _ | ⟨z, L0⟩
      · rfl
      · obtain ⟨b, off, hA, _⟩ := HR.out (by rw [hL0]; simp)
        cases hA)
    have O5 := Lib.hid (show OwnU W2 45 (w.heap.size + 1) (.slice none 0 0) L from by rw [HLN.out]; exact OwnU.nil _ _ _)
    have G5 := HG2; have KN5 := HKN; have KG5 := HKG
    have HZ5 := HZ2
    obtain ⟨w5, hw5⟩ : ∃ w5, w5 = W2 := ⟨_, rfl⟩
    obtain rfl := hw5
    go_wp2_with (first
      | (rw [← HW2.out]; at_builtin; refine wpList_appNil undR infoR26 w5 rfl (.tmp 21) (.tmp 25) rfl L.length d (by rw [HLN.out]; rfl) rfl rfl ?_)
      | (refine wpList_loadS _ (isR x) rfl (.tmp 3) rfl w.heap.size 0 rfl KN5.out.rowAt ?_)
      | (refine wpList_build1S _ 42 rfl (.tmp 28) rfl (run_build1R _ x) rfl ?_)
      | (at_builtin; refine wpList_appU undR infoR26 _ rfl (.tmp 27) (.tmp 29) rfl (w.heap.size + 1) _ (.slice none 0 0) _ [] [x] rfl ((TwoU.single O5.out).below ((Below.refl _ _).alloc (Nat.le_refl _) _)) (by have := HZ5.out; simp; omega) ⟨w5.heap.size, 0, none⟩ 1 1 rfl rfl (cu_one w5 _ x) (by have := HL.out; simp; try omega) ?_))
    intro v7 w7 h7 hg7 hl7
    have o7 : OwnU w7 45 (w.heap.size + 1) v7 M := by rw [HM.out]; exact h7.one
    have hb6 := (Below.refl w5.heap.size w5).alloc (Nat.le_refl _) (.cells x.row.toArray 45)
    have kn7 : Blk w7 w.heap.size 45 x.row := (hg7.block _ (KN5.out.below hb6 KN5.out.lt).lt (fun e => by
      have := (O5.out.lt _ e.symm).1
      omega)).trans (KN5.out.below hb6 KN5.out.lt)
    have kg7 : Blk w7 h 60 [.int .i64 mo, .int .i64 li, .int .i64 (la + 1), .slice none L.length d] := (hg7.block _ (KG5.out.below hb6 KG5.out.lt).lt (fun e => by
      have := (O5.out.lt _ e.symm).1
      omega)).trans (KG5.out.below hb6 KG5.out.lt)
    have hgw7 : w.grownBy w7 (some h) :=
      ⟨hg7.os.trans (hb6.os.trans G5.out.os), hg7.tape.trans (hb6.tape.trans G5.out.tape), hg7.output.trans (hb6.output.trans G5.out.output), Nat.le_trans G5.out.size (Nat.le_trans hb6.size hg7.size), fun k hk hne => (hg7.block k (Nat.lt_of_lt_of_le hk (Nat.le_trans G5.out.size hb6.size)) (fun e => by
        have := (O5.out.lt _ e.symm).1
        omega)).trans ((hb6.block k (Nat.lt_of_lt_of_le hk G5.out.size)).trans (G5.out.block k hk hne))⟩
    clear c0 c1 c2 c3 f0 f1 f2 f3 b0 b15 z0 z15 HW2
    obtain ⟨A7, d7, rfl, hd7, _⟩ := o7.form
    obtain ⟨y, hy⟩ : ∃ y, M[0]? = some y := ⟨_, List.getElem?_eq_getElem (by rw [HML.out]; omega)⟩
    obtain ⟨b7, rfl, _⟩ := first_of o7 hy
    rw [HML.out] at o7 hd7 ⊢
    obtain ⟨c0, c1, c2, c3⟩ := cells4 kg7
    obtain ⟨f0, f1, f2, f3⟩ := free4 kg7
    have n0 : w7.cell? ⟨w.heap.size, 0, none⟩ = some (.int .i64 x.id) := kn7.cell 0
    have HO7 := Lib.hid o7; have HKG7 := Lib.hid kg7; have HGW := Lib.hid hgw7
    have hd1 : (1 : Int) ≤ (d7 : Int) := by omega
    have hd2 : 1 ≤ d7 := by omega
    have HD7 := Lib.hid hd7
    clear h7 hg7 hl7 o7 hb6 kn7 kg7 hgw7 hd7 hy O5 G5 KN5 KG5
    rcases HCS.out with ⟨hov, hL', hG⟩ | ⟨hov, hL', hG⟩
    · obtain ⟨AA, hAA⟩ : ∃ AA, (if d7 = 1 then (some ⟨b7, 0, none⟩ : Option Addr) else some ⟨b7, 16, none⟩) = AA := ⟨_, rfl⟩
      have HRD := Lib.hid (rows_drop HO7.out (by rw [HML.out]; exact HD7.out) hAA)
      have HLE := Lib.hid (And.intro hL' hG)
      clear hL' hG
      go_wp2_with fail
      go_region
      all_goals
        go_wp2_with fail
        go_ret2
        obtain ⟨hL', hG⟩ := HLE.out
        have hl1 : (M.drop 1).length = L.length := by rw [List.length_drop, HML.out]; rfl
        have hl2 : (M.take 1).length = 1 := by rw [List.length_take, HML.out]; omega
        have hgs := grown_setCell (grown_refl w7 (some h)) 3 (.slice AA L.length (d7 - 1))
        have hgf := grown_setCell HGW.out 3 (.slice AA L.length (d7 - 1))
        have e1 : SlU (w7.setCell ⟨h, 3, none⟩ (.slice AA L.length (d7 - 1))) 45 0 (.slice AA L.length (d7 - 1)) L' := by
          rw [hL']
          exact ⟨AA, d7 - 1, by rw [hl1], (HRD.out.grown HKG7.out (by decide) hgs).lower (Nat.zero_le _)⟩
        have e2 : SlU (w7.setCell ⟨h, 3, none⟩ (.slice AA L.length (d7 - 1))) 45 0 (.slice (some ⟨b7, 0, none⟩) 1 d7) G := by
          rw [hG]
          exact ⟨some ⟨b7, 0, none⟩, d7, by rw [hl2], ((rows_take HO7.out).grown HKG7.out (by decide) hgs).lower (Nat.zero_le _)⟩
        exact ⟨.slice (some ⟨b7, 0, none⟩) 1 d7, .slice AA L.length (d7 - 1), congrArg (fun z => Ending.returned (.tuple #[.int .i64 z, .slice (some ⟨b7, 0, none⟩) 1 d7])) HXI.out, ⟨(HKG7.out.set 3 _), e1, by rw [hL', hl1]; have := HL.out; omega⟩, e2, ⟨hgf.os, hgf.tape, hgf.output, hgf.size, hgf.block⟩⟩
    · have HLE := Lib.hid (And.intro hL' hG)
      clear hL' hG
      go_wp2_with fail
      go_ret2
      obtain ⟨hL', hG⟩ := HLE.out
      have hgs := grown_setCell (grown_refl w7 (some h)) 3 (.slice (some ⟨b7, 0, none⟩) (L.length + 1) d7)
      refine ⟨.slice none 0 0, .slice (some ⟨b7, 0, none⟩) (L.length + 1) d7, congrArg (fun z => Ending.returned (.tuple #[.int .i64 z, .slice none 0 0])) HXI.out, ⟨HKG7.out.set 3 _, ?_, ?_⟩, ?_, grown_setCell HGW.out 3 _⟩
      · have e := HML.out
        rw [hL']
        exact ⟨some ⟨b7, 0, none⟩, d7, by rw [e], (HO7.out.rows.grown HKG7.out (by decide) hgs).lower (Nat.zero_le _)⟩
      · rw [hL', HML.out]; have := HL.out; omega
      · rw [hG]; exact SlU.nil _ _ _
  | some ad =>
    go_wp2_with (first
      | (rw [← HW2.out]; at_builtin; refine wpList_appU undR infoR26 W2 rfl (.tmp 21) (.tmp 25) rfl (w.heap.size + 1) (.slice none 0 0) (.slice none 0 0) [] [] L rfl (TwoU.single (OwnU.nil _ _ _)) HZ2.out ad L.length d rfl rfl HR2.out.flat (by have := HL.out; simp; omega) ?_))
    intro v5 w5 h5 hg5 hl5
    have O5 := Lib.hid (show OwnU w5 45 (w.heap.size + 1) v5 L from h5.one)
    have hb5 : Below W2.heap.size W2 w5 := ⟨hg5.os, hg5.tape, hg5.output, hg5.size, fun k hk => hg5.block k hk (by simp [Value.ownBlock])⟩
    have G5 := Lib.hid (grown_trans HG2.out (grown_of_below hb5 (some h)))
    have KN5 := Lib.hid (HKN.out.below hb5 HKN.out.lt); have KG5 := Lib.hid (HKG.out.below hb5 HKG.out.lt)
    have HZ5 := Lib.hid (Nat.le_trans HZ2.out hb5.size)
    clear h5 hg5 hl5 hb5 HW2
    clear c0 c1 c2 c3 f0 f1 f2 f3 b0 b15 z0 z15
    go_wp2_with (first
      | (refine wpList_loadS _ (isR x) rfl (.tmp 3) rfl w.heap.size 0 rfl KN5.out.rowAt ?_)
      | (refine wpList_build1S _ 42 rfl (.tmp 28) rfl (run_build1R _ x) rfl ?_)
      | (at_builtin; refine wpList_appU undR infoR26 _ rfl (.tmp 27) (.tmp 29) rfl (w.heap.size + 1) _ (.slice none 0 0) _ [] [x] rfl ((TwoU.single O5.out).below ((Below.refl _ _).alloc (Nat.le_refl _) _)) (by have := HZ5.out; simp; omega) ⟨w5.heap.size, 0, none⟩ 1 1 rfl rfl (cu_one w5 _ x) (by have := HL.out; simp; try omega) ?_))
    intro v7 w7 h7 hg7 hl7
    have o7 : OwnU w7 45 (w.heap.size + 1) v7 M := by rw [HM.out]; exact h7.one
    have hb6 := (Below.refl w5.heap.size w5).alloc (Nat.le_refl _) (.cells x.row.toArray 45)
    have kn7 : Blk w7 w.heap.size 45 x.row := (hg7.block _ (KN5.out.below hb6 KN5.out.lt).lt (fun e => by
      have := (O5.out.lt _ e.symm).1
      omega)).trans (KN5.out.below hb6 KN5.out.lt)
    have kg7 : Blk w7 h 60 [.int .i64 mo, .int .i64 li, .int .i64 (la + 1), .slice (some ad) L.length d] := (hg7.block _ (KG5.out.below hb6 KG5.out.lt).lt (fun e => by
      have := (O5.out.lt _ e.symm).1
      omega)).trans (KG5.out.below hb6 KG5.out.lt)
    have hgw7 : w.grownBy w7 (some h) :=
      ⟨hg7.os.trans (hb6.os.trans G5.out.os), hg7.tape.trans (hb6.tape.trans G5.out.tape), hg7.output.trans (hb6.output.trans G5.out.output), Nat.le_trans G5.out.size (Nat.le_trans hb6.size hg7.size), fun k hk hne => (hg7.block k (Nat.lt_of_lt_of_le hk (Nat.le_trans G5.out.size hb6.size)) (fun e => by
        have := (O5.out.lt _ e.symm).1
        omega)).trans ((hb6.block k (Nat.lt_of_lt_of_le hk G5.out.size)).trans (G5.out.block k hk hne))⟩
    obtain ⟨A7, d7, rfl, hd7, _⟩ := o7.form
    obtain ⟨y, hy⟩ : ∃ y, M[0]? = some y := ⟨_, List.getElem?_eq_getElem (by rw [HML.out]; omega)⟩
    obtain ⟨b7, rfl, _⟩ := first_of o7 hy
    rw [HML.out] at o7 hd7 ⊢
    obtain ⟨c0, c1, c2, c3⟩ := cells4 kg7
    obtain ⟨f0, f1, f2, f3⟩ := free4 kg7
    have n0 : w7.cell? ⟨w.heap.size, 0, none⟩ = some (.int .i64 x.id) := kn7.cell 0
    have HO7 := Lib.hid o7; have HKG7 := Lib.hid kg7; have HGW := Lib.hid hgw7
    have hd1 : (1 : Int) ≤ (d7 : Int) := by omega
    have hd2 : 1 ≤ d7 := by omega
    have HD7 := Lib.hid hd7
    clear h7 hg7 hl7 o7 hb6 kn7 kg7 hgw7 hd7 hy O5 G5 KN5 KG5
    rcases HCS.out with ⟨hov, hL', hG⟩ | ⟨hov, hL', hG⟩
    · obtain ⟨AA, hAA⟩ : ∃ AA, (if d7 = 1 then (some ⟨b7, 0, none⟩ : Option Addr) else some ⟨b7, 16, none⟩) = AA := ⟨_, rfl⟩
      have HRD := Lib.hid (rows_drop HO7.out (by rw [HML.out]; exact HD7.out) hAA)
      have HLE := Lib.hid (And.intro hL' hG)
      clear hL' hG
      go_wp2_with fail
      go_region
      all_goals
        go_wp2_with fail
        go_ret2
        obtain ⟨hL', hG⟩ := HLE.out
        have hl1 : (M.drop 1).length = L.length := by rw [List.length_drop, HML.out]; rfl
        have hl2 : (M.take 1).length = 1 := by rw [List.length_take, HML.out]; omega
        have hgs := grown_setCell (grown_refl w7 (some h)) 3 (.slice AA L.length (d7 - 1))
        have hgf := grown_setCell HGW.out 3 (.slice AA L.length (d7 - 1))
        have e1 : SlU (w7.setCell ⟨h, 3, none⟩ (.slice AA L.length (d7 - 1))) 45 0 (.slice AA L.length (d7 - 1)) L' := by
          rw [hL']
          exact ⟨AA, d7 - 1, by rw [hl1], (HRD.out.grown HKG7.out (by decide) hgs).lower (Nat.zero_le _)⟩
        have e2 : SlU (w7.setCell ⟨h, 3, none⟩ (.slice AA L.length (d7 - 1))) 45 0 (.slice (some ⟨b7, 0, none⟩) 1 d7) G := by
          rw [hG]
          exact ⟨some ⟨b7, 0, none⟩, d7, by rw [hl2], ((rows_take HO7.out).grown HKG7.out (by decide) hgs).lower (Nat.zero_le _)⟩
        exact ⟨.slice (some ⟨b7, 0, none⟩) 1 d7, .slice AA L.length (d7 - 1), congrArg (fun z => Ending.returned (.tuple #[.int .i64 z, .slice (some ⟨b7, 0, none⟩) 1 d7])) HXI.out, ⟨(HKG7.out.set 3 _), e1, by rw [hL', hl1]; have := HL.out; omega⟩, e2, ⟨hgf.os, hgf.tape, hgf.output, hgf.size, hgf.block⟩⟩
    · have HLE := Lib.hid (And.intro hL' hG)
      clear hL' hG
      go_wp2_with fail
      go_ret2
      obtain ⟨hL', hG⟩ := HLE.out
      have hgs := grown_setCell (grown_refl w7 (some h)) 3 (.slice (some ⟨b7, 0, none⟩) (L.length + 1) d7)
      refine ⟨.slice none 0 0, .slice (some ⟨b7, 0, none⟩) (L.length + 1) d7, congrArg (fun z => Ending.returned (.tuple #[.int .i64 z, .slice none 0 0])) HXI.out, ⟨HKG7.out.set 3 _, ?_, ?_⟩, ?_, grown_setCell HGW.out 3 _⟩
      · have e := HML.out
        rw [hL']
        exact ⟨some ⟨b7, 0, none⟩, d7, by rw [e], (HO7.out.rows.grown HKG7.out (by decide) hgs).lower (Nat.zero_le _)⟩
      · rw [hL', HML.out]; have := HL.out; omega
      · rw [hG]; exact SlU.nil _ _ _
end Go.Proofs.Ytgaoonnokhlgjaa

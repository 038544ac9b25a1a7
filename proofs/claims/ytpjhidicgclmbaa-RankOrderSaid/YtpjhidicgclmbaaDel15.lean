/-
  A runner is taken out of its row.
-/
import Derived.Test.YtpjhidicgclmbaaRow15
import Derived.Test.YtpjhidicgclmbaaAgg15
import Derived.Deep.RegionLaw
namespace Go.Proofs.Ytpjhidicgclmbaa
set_option linter.unusedVariables false
set_option linter.unusedSimpArgs false
open Go.RowKit

theorem blk_fill_tail {g T : Nat} : ∀ (vs cs pre post : List Value) (w : World), Blk w g T (pre ++ (cs ++ post)) → cs.length = vs.length → Blk (w.setCells g pre.length vs) g T (pre ++ (vs ++ post))
  | [], [], pre, post, w, h, _ => h
  | v :: vs, c :: cs, pre, post, w, h, hl => by
    have h1 := h.set pre.length v
    have e : (pre ++ ((c :: cs) ++ post)).set pre.length v = (pre ++ [v]) ++ (cs ++ post) := by simp
    rw [e] at h1
    have h2 := blk_fill_tail vs cs (pre ++ [v]) post _ h1 (by simpa using hl)
    have e2 : (pre ++ [v]).length = pre.length + 1 := by simp
    rw [e2] at h2
    simpa [World.setCells] using h2
  | [], _ :: _, _, _, _, _, hl => by simp at hl
  | _ :: _, [], _, _, _, _, hl => by simp at hl
theorem flatR_app (X Y : List Rn) : flatR (X ++ Y) = flatR X ++ flatR Y := by unfold flatR; rw [List.flatMap_append]
theorem RBlk.fill {w : World} {g : Nat} {A C Q : List Rn} (h : RBlk w g (A ++ (C ++ Q))) (V : List Rn) (hV : V.length = C.length) : RBlk (w.setCells g (A.length * 10) (flatR V)) g (A ++ (V ++ Q)) := by
  unfold RBlk at h ⊢
  rw [flatR_app, flatR_app] at h ⊢
  rw [← flatR_len]
  exact blk_fill_tail (flatR V) (flatR C) (flatR A) (flatR Q) w h (by rw [flatR_len, flatR_len, hV])
theorem flat_one (X : List Rn) : ∀ v ∈ flatR X, v.oneCell' = true := by
  intro v hv
  unfold flatR at hv
  obtain ⟨x, _, hx⟩ := List.mem_flatMap.1 hv
  simp only [Rn.row, List.mem_cons, List.not_mem_nil, or_false] at hx
  rcases hx with rfl | rfl | rfl | rfl | rfl | rfl | rfl | rfl | rfl | rfl <;> rfl
theorem split_row (X : List Rn) (i : Nat) (hi : i < X.length) : ∃ D z, X = X.take i ++ (D ++ [z]) ∧ D.length = (X.drop (i + 1)).length := by
  have hne : X.drop i ≠ [] := by intro e; have := congrArg List.length e; simp at this; omega
  refine ⟨(X.drop i).dropLast, (X.drop i).getLast hne, ?_, by simp; omega⟩
  rw [List.dropLast_concat_getLast, List.take_append_drop]
theorem infoR : ∃ i, Try.prog.info? 53 = some i ∧ i.size = 10 := by
  obtain ⟨i, hi, hz, hs, hb⟩ := info_parts (P := Try.prog) (e := 53) (z := .agg #[.int .u32 0, .int .i64 0, .int .i64 0, .int .i64 0, .int .i64 0, .int .i64 0, .int .i64 0, .int .i64 0, .int .i64 0, .int .i64 0]) (size := 10) (bytes := 80) (by kernel_rfl)
  exact ⟨i, hi, hs⟩
theorem RBlk.moved {w : World} {g i : Nat} {X Y : List Rn} (h : RBlk w g (X ++ Y)) (hi : i < X.length) : ∃ z, RBlk (w.setCells g (i * 10) (flatR (X.drop (i + 1)))) g (X.eraseIdx i ++ ([z] ++ Y)) := by
  obtain ⟨D, z, hX, hD⟩ := split_row X i hi
  refine ⟨z, ?_⟩
  have e : X ++ Y = X.take i ++ (D ++ ([z] ++ Y)) := by
    conv => lhs; rw [hX]
    simp
  rw [e] at h
  have h1 := h.fill (X.drop (i + 1)) hD.symm
  rw [show (X.take i).length = i by simp; omega] at h1
  rw [List.eraseIdx_eq_take_drop_succ, List.append_assoc]
  exact h1
/-- append(s[:i], s[i+1:]...) within the row. -/
theorem step_delR {ops : Array Oper} {o : Oper} {a : Act} {w : World} {K : Act → World → Prop} {Q : Exit → Act → World → Prop} {E : Prop}
    (hg : o.guard = none) (s x : Operand) (hop : o.op = Op.call { callee := Callee.builtin Builtin.append, args := #[s, x], argTypes := #[47, 47] })
    (g i k cap : Nat) (X Y : List Rn) (hX : X.length = k + 1) (hi : i ≤ k) (h : RBlk w g (X ++ Y)) (hk : k + 1 ≤ cap)
    (hs : a.eval s = .slice (some ⟨g, 0, none⟩) i cap) (ad : Addr) (had : k ≠ i → ad = ⟨g, (i + 1) * 10, none⟩) (m c : Nat) (hm : m = k - i) (hx : a.eval x = .slice (some ad) m c)
    (hK : ∀ w' z, RBlk w' g (X.eraseIdx i ++ ([z] ++ Y)) → w.grownBy w' (some g) → K (a.put o.dst (.slice (some ⟨g, 0, none⟩) k cap)) w') :
    if Region.wanted o (yielded ops a.tmps) = true then Oper.wp Try.prog o a w K Q else E := by
  obtain ⟨ii, hii, hz⟩ := infoR
  obtain ⟨z, hz2⟩ := h.moved (i := i) (by omega)
  have hl : (flatR (X.drop (i + 1))).length = m * 10 := by rw [flatR_len, List.length_drop]; omega
  subst hm
  refine step_append_room hg s x 47 hop 53 ii 10 Try.underlying47 hii hz g 0 i cap hs ad (k - i) c (flatR (X.drop (i + 1))) hx hl ?_ (flat_one _) (by omega) ?_ ?_
  · intro j u hj
    have hj2 := (List.getElem?_eq_some_iff.1 hj).1
    rw [had (by omega), Addr.add_lit]
    unfold RBlk at h
    rw [Blk.cell h]
    have e : X ++ Y = X.take (i + 1) ++ (X.drop (i + 1) ++ Y) := by rw [← List.append_assoc, List.take_append_drop]
    rw [e, flatR_app, List.getElem?_append_right (by rw [flatR_len, List.length_take]; omega), flatR_app, flatR_len, List.length_take]
    rw [show (i + 1) * 10 + j - min (i + 1) X.length * 10 = j by rw [show min (i + 1) X.length = i + 1 by omega]; omega]
    rw [List.getElem?_append_left hj2]
    exact hj
  · intro j hj
    unfold RBlk at h
    rw [Blk.cell h]
    refine ⟨?_, Blk.free h _⟩
    rw [List.getElem?_eq_getElem (by rw [flatR_len, List.length_append]; omega)]
    rfl
  · have := hK _ z hz2 (grown_setCells (flatR (X.drop (i + 1))) (i * 10) w w (grown_refl _ _))
    rw [show i + (k - i) = k by omega, Nat.zero_add]
    exact this
section
variable {ops : Array Oper} {rest : List Oper} {o : Oper} {a : Act} {Q : Exit → Act → World → Prop}
theorem run_clearR (w : World) (ty : TypeId) (g off c : Nat) (hc : ∀ j, j < 10 → (w.cell? ⟨g, off + j, none⟩).isSome = true) (hf : ∀ j, j < 10 → w.frozen? ⟨g, off + j, none⟩ = false) :
    (Builtin.clear_ #[47] ty #[.slice (some ⟨g, off, none⟩) 1 c]).run Try.prog w = .ok (.tuple #[]) (w.setCells g off (flatR [Rn0])) := by
  have hst := run_storeCells_cells (P := Try.prog) g off (flatR [Rn0]) 0 w (fun j hj => by rw [Nat.add_zero]; exact hc j hj) (fun j hj => by rw [Nat.add_zero]; exact hf j hj) (flat_one _)
  have hz : ∀ w : World, (zeroValue 53).run Try.prog w = .ok (.agg #[.int .u32 0, .int .i64 0, .int .i64 0, .int .i64 0, .int .i64 0, .int .i64 0, .int .i64 0, .int .i64 0, .int .i64 0, .int .i64 0]) w := fun w => by kernel_rfl
  have hzc : (Builtin.zeroCells (Value.cells (.agg #[.int .u32 0, .int .i64 0, .int .i64 0, .int .i64 0, .int .i64 0, .int .i64 0, .int .i64 0, .int .i64 0, .int .i64 0, .int .i64 0])) 1).toList = flatR [Rn0] := by kernel_rfl
  simp only [Nat.add_zero] at hst
  simp [Builtin.clear_, run_underlying Try.underlying47, hz, hzc, hst]
theorem wpList_clearR (w : World) (hg : o.guard = none) (m : Operand) (hop : o.op = Op.call { callee := Callee.builtin Builtin.clear, args := #[m], argTypes := #[47] }) (g k c n : Nat) (ad : Addr) (had : ad = ⟨g, k * 10, none⟩) (hn : n = 1) (X Y : List Rn) (z : Rn) (hX : X.length = k) (hm : a.eval m = .slice (some ad) n c) (h : RBlk w g (X ++ ([z] ++ Y)))
    (hK : ∀ w', RBlk w' g (X ++ ([Rn0] ++ Y)) → (∀ w0 : World, w0.grownBy w (some g) → w0.grownBy w' (some g)) → wpList Try.prog ops Q rest (a.put o.dst (.tuple #[])) w') : wpList Try.prog ops Q (o :: rest) a w := by
  subst had
  subst hn
  refine wpList_plain hg fun K' hK' => ?_
  have hb := h
  unfold RBlk at hb
  have hrun := run_clearR w o.type g (k * 10) c (fun j hj => by rw [Blk.cell hb, List.getElem?_eq_getElem (by rw [flatR_len, List.length_append, List.length_append]; simp; omega)]; rfl) (fun j hj => Blk.free hb _)
  have h1 := h.fill [Rn0] rfl
  rw [hX] at h1
  unfold Oper.wp
  simp [execOp, hop, resolve, invoke, builtin, hm, hrun, Result.andThen]
  exact hK' _ _ (hK _ h1 (fun w0 h0 => grown_setCells _ _ _ _ h0))
end
set_option maxRecDepth 1000000 in
set_option maxHeartbeats 6400000 in
theorem del_any (g i k cap : Nat) (X Y : List Rn) (hX : X.length = k + 1) (hi : i ≤ k) (hk : k + 1 ≤ cap) (hc : cap ≤ 1000000) (w : World) (h : RBlk w g (X ++ Y)) :
    Calls Try.prog 27 #[.slice (some ⟨g, 0, none⟩) (k + 1) cap, .int .i64 (i : Int), .int .i64 ((i : Int) + 1)] w fun e w' => e = .returned (.slice (some ⟨g, 0, none⟩) k cap) ∧ RBlk w' g (X.eraseIdx i ++ ([Rn0] ++ Y)) ∧ w.drew.grownBy w' (some g) := by
  obtain ⟨A, hA, had⟩ : ∃ A : Addr, (if cap = i + 1 then some (⟨g, 0, none⟩ : Addr) else some ⟨g, (i + 1) * 10, none⟩) = some A ∧ (k ≠ i → A = ⟨g, (i + 1) * 10, none⟩) := by
    by_cases hci : cap = i + 1
    · exact ⟨⟨g, 0, none⟩, by simp [hci], fun hne => by omega⟩
    · exact ⟨⟨g, (i + 1) * 10, none⟩, by simp [hci], fun _ => rfl⟩
  have HX := Lib.hid hX; have HB := Lib.hid h; have HA := Lib.hid had
  have HLE := Lib.hid (show (X.eraseIdx i).length = k by rw [List.length_eraseIdx_of_lt (by omega)]; omega)
  have hp0 : (0 : Int) ≤ (i : Int) + 1 := by omega
  have hp1 : (i : Int) + 1 ≤ (k : Int) + 1 := by omega
  have hp2 : ((i : Int) + 1).toNat = i + 1 := by omega
  have hp3 : (k : Int) + 1 ≤ (cap : Int) := by omega
  have hp4 : (i : Int) + 1 ≤ (cap : Int) := by omega
  have hp5 : (i : Int) ≤ (cap : Int) := by omega
  have hp6 : ¬ ((i : Int) = (i : Int) + 1) := by omega
  have hp7 : cap ≠ k := by omega
  clear hX h had
  go_enter Try.func27, Try.ntmps27
  go_wp2_with fail
  go_region_law ((refine step_delR (by rfl) (.tmp 22) (.tmp 25) (by rfl) g i k cap X Y HX.out hi (HB.out) hk (by simp [Act.eval, Act.put]) A HA.out (k - i) (cap - (i + 1)) (by rfl) (by simp [Act.eval, Act.put, hA]) ?_; intro w1 z hz hgr))
  go_wp2_with (refine wpList_clearR _ (by rfl) (.tmp 31) (by rfl) g k (cap - k) 1 ⟨g, k * 10, none⟩ rfl rfl (X.eraseIdx i) Y z HLE.out (by rfl) hz ?_; intro w2 hz2 hgr2)
  go_ret
  exact ⟨by simp, hz2, hgr2 _ hgr⟩
end Go.Proofs.Ytpjhidicgclmbaa

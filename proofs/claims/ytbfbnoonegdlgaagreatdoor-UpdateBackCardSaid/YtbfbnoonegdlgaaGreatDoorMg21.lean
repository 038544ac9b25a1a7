/-
  Texts of this seat, put together: Awake4, StU5, Puts4W, APuts5.
-/
import Derived.Test.YtbfbnoonegdlgaaGreatDoorReadB4Mg
import Derived.Test.YtbfbnoonegdlgaaGreatDoorSame4Mg
import Derived.Test.YtbfbnoonegdlgaaGreatDoorMg4
import Derived.Test.YtbfbnoonegdlgaaGreatDoorMg8
import Derived.Test.YtbfbnoonegdlgaaGreatDoorMg19
import Derived.Test.YtbfbnoonegdlgaaGreatDoorRefRight4Mg
import Derived.Test.YtbfbnoonegdlgaaGreatDoorRefPut4Mg
import Derived.Test.YtbfbnoonegdlgaaGreatDoorMg1
/-
  The example that every statement of this layer asks for.
-/
namespace Go.Proofs.YtbfbnoonegdlgaaGreatDoor
set_option linter.unusedVariables false
set_option linter.unusedSimpArgs false
open Go.RowKit

/-- The kinds that are laid so far. -/
def okP (k : Nat) : Bool := k == 1 || k == 2 || k == 3 || k == 4 || k == 5 || k == 6 || k == 17
theorem steps_p (B : Nat) (wide : Bool) : Steps okP B wide := by
  intro gx f k S T A A2 c n2 c2 B' v r b W hk hB hB2 hI ht ho hc hm hl hs _
  have hk' : k = 1 ∨ k = 2 ∨ k = 3 ∨ k = 4 ∨ k = 5 ∨ k = 6 ∨ k = 17 := by
    unfold okP at hk
    simp only [Bool.or_eq_true, beq_iff_eq] at hk
    omega
  have hy := ho.bytes
  rcases hk' with rfl | rfl | rfl | rfl | rfl | rfl | rfl
  · exact (take1_step B gx f wide S T A A2 c n2 c2 v r b W hI ht hy hc hm hl hs).mono fun e W' h => h.all hB hB2
  · exact (take2_step B gx f wide S T A A2 c n2 c2 v r b W hI ht hy hc hm hl hs).mono fun e W' h => h.all hB hB2
  · exact (take3_step B gx f wide S T A A2 c n2 c2 v r b W hI ht hy hc hm hl hs).mono fun e W' h => h.all hB hB2
  · exact (take4_step B gx f wide S T A A2 c n2 c2 v r b W hI ht hy hc hm hl hs).mono fun e W' h => h.all hB hB2
  · exact (take5_step B gx f wide S T A A2 c n2 c2 v r b W hI ht hy hc hm hl hs).mono fun e W' h => h.all hB hB2
  · exact (take6_step B gx f wide S T A A2 c n2 c2 v r b W hI ht hy hc hm hl hs).mono fun e W' h => h.all hB hB2
  · exact (take17_step B gx f wide S T A A2 c n2 c2 v r b W hI ht hy hc hm hl hs).mono fun e W' h => h.all hB hB2
/-- The example's bytes. -/
def exB : List UInt8 := putA 0 167772161 0 0 [] (-1) (-1) 4294967295 4294967295 false false [] [] true
def exS : Rs := ⟨0, [], 167772161, -1, -1, false, false, 0, 0, [], [], [1, 2, 3], [], []⟩
theorem exB_is : exB = wholeL 64 1 [0] ++ (wholeL 64 2 [] ++ (wholeL 64 3 [10, 0, 0, 1] ++ [])) := by decide +kernel
theorem exRun : RunK okP true exB rs0 exS := by
  rw [exB_is]
  obtain ⟨f1, h1, e1⟩ := nextA_whole (f := 64) (k := 1) (v := [0]) (r := wholeL 64 2 [] ++ (wholeL 64 3 [10, 0, 0, 1] ++ [])) (.inl rfl) (by decide) (by decide)
  obtain ⟨f2, h2, e2⟩ := nextA_whole (f := 64) (k := 2) (v := []) (r := wholeL 64 3 [10, 0, 0, 1] ++ []) (.inl rfl) (by decide) (by decide)
  obtain ⟨f3, h3, e3⟩ := nextA_whole (f := 64) (k := 3) (v := [10, 0, 0, 1]) (r := []) (.inl rfl) (by decide) (by decide)
  refine RunK.more (T := ⟨0, [], 0, -1, -1, false, false, 0, 0, [], [], [1], [], []⟩) (by decide) (by rw [e1]) (by rw [e1]; rfl) (by rw [e1]; exact st1 (by simp [rs0]) ⟨h1, rfl, by decide⟩) ?_
  rw [e1]
  refine RunK.more (T := ⟨0, [], 0, -1, -1, false, false, 0, 0, [], [], [1, 2], [], []⟩) (by show wholeL 64 2 [] ++ (wholeL 64 3 [10, 0, 0, 1] ++ []) ≠ []; decide) (by rw [e2]) (by rw [e2]; rfl) (by rw [e2]; exact st2 (by simp) h2 (by decide +kernel)) ?_
  rw [e2]
  refine RunK.more (T := exS) (by show wholeL 64 3 [10, 0, 0, 1] ++ [] ≠ []; decide) (by rw [e3]) (by rw [e3]; rfl) (by rw [e3]; exact st3 (by simp) ⟨h3, rfl, by decide⟩) ?_
  rw [e3]
  exact RunK.nil _ _ _
theorem exLen : exB.length = 14 := by decide +kernel
/-- The example's attributes. -/
def exA : Av := ⟨((0 : Nat) : Int), none, 0, [], ((167772161 : Nat) : Int), -1, -1, false, false, ((0 : Nat) : Int), ((0 : Nat) : Int), none, 0, [], none, 0, []⟩
theorem exA_in (w : World) : exA.In w w.heap.size := ⟨Segs.nil _ _ _, ⟨Nat.le_refl _, Nat.zero_le _⟩, At32.nil _ _ _, ⟨Nat.le_refl _, Nat.zero_le _⟩, RwIn.nil _ _ _, ⟨Nat.le_refl _, Nat.zero_le _⟩, fun s hs => by cases hs⟩
theorem exPut (w : World) (ht : TabK w) : Calls Tryz.prog 44 #[.agg #[.int .i64 0, .slice none 0 0, .int .u32 167772161, .int .i64 (-1), .int .i64 (-1), .bool false, .bool false, .int .u32 0, .int .u32 0, .slice none 0 0, .slice none 0 0], .bool true] w (RetPut w exB) :=
  PutA_ok 0 167772161 0 0 none 0 [] (-1) (-1) false false none 0 [] none 0 [] 4294967295 4294967295 true w ht (exA_in w) (by decide +kernel) (by decide) (by decide) (by decide) (by decide) (by decide) (by decide) (by decide) (by decide) (by decide) (by decide) (by decide) (fun n hn => by cases hn) (by decide) (fun s hs => by cases hs)
theorem exSame {x : Av} (h1 : x.org = ((0 : Nat) : Int)) (h2 : x.path.map Sg.abs = []) (h3 : x.next = ((167772161 : Nat) : Int)) (h4 : x.med = -1) (h5 : x.pref = -1) (h6 : x.atomic = false) (h7 : x.has = false) (h8 : x.aas = ((0 : Nat) : Int)) (h9 : x.aad = ((0 : Nat) : Int)) (h10 : x.comms = []) (h11 : x.raws.map Rw.abs = []) : x.same exA = true := by
  have e1 : x.path = [] := by simpa using h2
  have e2 : x.raws = [] := by simpa using h11
  unfold Av.same exA
  rw [h1, h3, h4, h5, h6, h7, h8, h9, h10, e1, e2]
  decide
end Go.Proofs.YtbfbnoonegdlgaaGreatDoor

/-
  Updates as values: stores; what the attributes of nothing are.
-/
namespace Go.Proofs.YtbfbnoonegdlgaaGreatDoor
set_option linter.unusedVariables false
set_option linter.unusedSimpArgs false
open Go.RowKit

theorem blk_fill5 {g T : Nat} : ∀ (vs cs pre : List Value) (w : World), Blk w g T (pre ++ cs) → cs.length = vs.length → Blk (w.setCells g pre.length vs) g T (pre ++ vs)
  | [], [], pre, w, h, _ => h
  | v :: vs, c :: cs, pre, w, h, hl => by
    have h1 := h.set pre.length v
    have e : (pre ++ c :: cs).set pre.length v = (pre ++ [v]) ++ cs := by simp
    rw [e] at h1
    have h2 := blk_fill5 vs cs (pre ++ [v]) _ h1 (by simpa using hl)
    have e2 : (pre ++ [v]).length = pre.length + 1 := by simp
    rw [e2] at h2
    simpa [World.setCells] using h2
  | [], _ :: _, _, _, _, hl => by simp at hl
  | _ :: _, [], _, _, _, hl => by simp at hl
theorem grown_setCells5 {g : Nat} : ∀ (vs : List Value) (o : Nat) (w w1 : World), w.grownBy w1 (some g) → w.grownBy (w1.setCells g o vs) (some g)
  | [], _, _, _, h => h
  | v :: vs, o, w, w1, h => grown_setCells5 vs (o + 1) w _ (grown_setCell h o v)
theorem rowU_one (u : Uv) : ∀ v ∈ u.row, v.oneCell' = true := by
  intro v hv
  simp only [Uv.row, Av.row, List.mem_cons, List.mem_append, List.not_mem_nil, or_false, List.cons_append, List.nil_append] at hv
  rcases hv with rfl | rfl | rfl | rfl | rfl | rfl | rfl | rfl | rfl | rfl | rfl | rfl | rfl <;> rfl
theorem run_storeU {w : World} {g T : Nat} {cs : List Value} {u : Uv} (h : Blk w g T cs) (hl : cs.length = 13) :
    ∃ w', (Instr.storeAt 30 (.pointer (some ⟨g, 0, none⟩)) u.agg).run Tryz.prog w = .ok () w' ∧ Blk w' g T u.row ∧ w.grownBy w' (some g) := by
  have hr : u.row.length = 13 := rfl
  have hs := run_storeCells_cells (P := Tryz.prog) g 0 u.row 0 w (fun j hj => by rw [h.cell, List.getElem?_eq_getElem (by omega)]; rfl) (fun j hj => h.free _) (rowU_one u)
  refine ⟨w.setCells g 0 u.row, ?_, blk_fill5 u.row cs [] w h (by omega), grown_setCells5 _ _ _ _ (grown_refl _ _)⟩
  have e : (Value.cells u.agg).toList = u.row := rfl
  have e2 : (Value.cells u.agg).size = 13 := rfl
  simp [Instr.storeAt, Instr.sureAddr, storeVar, Sem.run_bind, sizeU, e, e2, hs, Result.andThen]
section
variable {ops : Array Oper} {rest : List Oper} {o : Oper} {a : Act} {Q : Exit → Act → World → Prop}
theorem wpList_storeU (w : World) (hg : o.guard = none) (hd : o.dst = none) (p x : Operand) (hop : o.op = Op.store 30 p x) (g T : Nat) (cs : List Value) (u : Uv) (hp : a.eval p = .pointer (some ⟨g, 0, none⟩)) (hx : a.eval x = u.agg) (h : Blk w g T cs) (hl : cs.length = 13)
    (hK : ∀ w', Blk w' g T u.row → w.grownBy w' (some g) → wpList Tryz.prog ops Q rest a w') : wpList Tryz.prog ops Q (o :: rest) a w := by
  refine wpList_plain hg fun K' hK' => ?_
  obtain ⟨w', hrun, r1, r2⟩ := run_storeU (u := u) h hl
  unfold Oper.wp
  simp [execOp, hop, hp, hx, hrun, Result.andThen, hd]
  have e : a.put none undef = a := rfl
  exact hK' _ _ (by rw [hd]; exact hK w' r1 r2)
theorem wpList_loadGU (w : World) (hw : Region.wanted o (yielded ops a.tmps) = true) (p : Operand) (hop : o.op = Op.load 30 p) (g : Nat) (c : Uv) (hp : a.eval p = .pointer (some ⟨g, 0, none⟩)) (h : UvAt w g c)
    (hK : wpList Tryz.prog ops Q rest (a.put o.dst c.agg) w) : wpList Tryz.prog ops Q (o :: rest) a w := by
  refine wpList_step fun K' hK' => ?_
  rw [if_pos hw]
  unfold Oper.wp
  simp [execOp, hop, hp, run_loadU h, Result.andThen]
  exact hK' _ _ hK
end
/-- Attributes of nothing at all. -/
def noneA : Av := ⟨0, none, 0, [], 0, 0, 0, false, false, 0, 0, none, 0, [], none, 0, []⟩
theorem noneA_in (w : World) : noneA.In w w.heap.size := ⟨Segs.nil _ _ _, ⟨Nat.le_refl _, Nat.zero_le _⟩, At32.nil _ _ _, ⟨Nat.le_refl _, Nat.zero_le _⟩, RwIn.nil _ _ _, ⟨Nat.le_refl _, Nat.zero_le _⟩, fun s hs => by cases hs⟩
def noneU : List Value := [.slice none 0 0, .int .i64 0, .slice none 0 0, .int .u32 0, .int .i64 0, .int .i64 0, .bool false, .bool false, .int .u32 0, .int .u32 0, .slice none 0 0, .slice none 0 0, .slice none 0 0]
theorem cells13 {w : World} {g T : Nat} {u0 u1 u2 u3 u4 u5 u6 u7 u8 u9 u10 u11 u12 : Value} (h : Blk w g T [u0, u1, u2, u3, u4, u5, u6, u7, u8, u9, u10, u11, u12]) : w.cell? ⟨g, 0, none⟩ = some u0 ∧ w.cell? ⟨g, 1, none⟩ = some u1 ∧ w.cell? ⟨g, 2, none⟩ = some u2 ∧ w.cell? ⟨g, 3, none⟩ = some u3 ∧ w.cell? ⟨g, 4, none⟩ = some u4 ∧ w.cell? ⟨g, 5, none⟩ = some u5 ∧ w.cell? ⟨g, 6, none⟩ = some u6 ∧ w.cell? ⟨g, 7, none⟩ = some u7 ∧ w.cell? ⟨g, 8, none⟩ = some u8 ∧ w.cell? ⟨g, 9, none⟩ = some u9 ∧ w.cell? ⟨g, 10, none⟩ = some u10 ∧ w.cell? ⟨g, 11, none⟩ = some u11 ∧ w.cell? ⟨g, 12, none⟩ = some u12 :=
  ⟨h.cell 0, h.cell 1, h.cell 2, h.cell 3, h.cell 4, h.cell 5, h.cell 6, h.cell 7, h.cell 8, h.cell 9, h.cell 10, h.cell 11, h.cell 12⟩
end Go.Proofs.YtbfbnoonegdlgaaGreatDoor

/-
  P4.2: any attributes' bytes, in wide and narrow numbers, or that they have none: the walk.
-/
namespace Go.Proofs.YtbfbnoonegdlgaaGreatDoor
set_option linter.unusedVariables false
set_option linter.unusedSimpArgs false
open Go.RowKit

theorem okB_facts {a : Av} (h : a.okB = true) : 0 ≤ a.org ∧ a.org ≤ 2 ∧ a.path.length ≤ 8 ∧ totN a.path ≤ 64 ∧ (-1 ≤ a.med ∧ a.med ≤ 4294967295) ∧ (-1 ≤ a.pref ∧ a.pref ≤ 4294967295) ∧ a.comms.length ≤ 32 ∧ rawsF (-1) (a.raws.map Rw.abs) = true ∧ a.raws.length ≤ 8 := by
  unfold Av.okB rightB saidB at h
  simp only [Bool.and_eq_true, decide_eq_true_eq] at h
  obtain ⟨⟨⟨⟨⟨⟨⟨h1, h2⟩, h3, _, h4⟩, h5, h6⟩, h7, h8⟩, _⟩, h9⟩, h10, h11⟩ := h
  exact ⟨h1, h2, h3, h4, ⟨h5, h6⟩, ⟨h7, h8⟩, h9, h10, h11⟩
theorem raws_facts : ∀ (L : List Rw) (b : Int), -1 ≤ b → rawsF b (L.map Rw.abs) = true → ∀ s ∈ L, ∃ f t : Nat, s.flags = (f : Int) ∧ s.ty = (t : Int) ∧ f = 224 ∧ t < 256 ∧ s.data.length ≤ 64
  | [], _, _, _, s, hs => by cases hs
  | x :: L, b, hb, h, s, hs => by
    simp only [List.map_cons, rawsF, rawOk, Rw.abs, Bool.and_eq_true, decide_eq_true_eq] at h
    obtain ⟨⟨⟨⟨⟨h1, h2⟩, _⟩, h3⟩, h4⟩, h5⟩ := h
    rcases List.mem_cons.1 hs with rfl | hs
    · exact ⟨224, s.ty.toNat, h3, by omega, rfl, by omega, h4⟩
    · exact raws_facts L x.ty (by omega) h5 s hs
theorem u32_wrap (n : Int) : ∃ m : Nat, IntKind.u32.wrap n = (m : Int) ∧ m < 4294967296 := by
  refine ⟨(IntKind.u32.wrap n).toNat, ?_, ?_⟩
  · rw [IntKind.wrap_u32]; omega
  · rw [IntKind.wrap_u32]; omega
/-- Attributes that may be: both Puts tell the same bytes. -/
theorem puts_both (a : Av) (wide : Bool) (w : World) (ht : TabK w) (ha : AvArg w a) (hok : a.okB = true) :
    ∃ d : List UInt8, ∀ W, Below w.heap.size w W → Calls Tryz.prog 44 #[.agg a.row.toArray, .bool wide] W (RetPut W d) ∧ Calls Tryz.prog 23 #[.agg a.row.toArray, .bool wide] W (RetPut W d) := by
  obtain ⟨h1, h2, h3, h4, h5, h6, h7, h8, h9⟩ := okB_facts hok
  have hre := raws_facts a.raws (-1) (Int.le_refl _) h8
  obtain ⟨hin, hcm, _, _, hnx, haa, had, _, _, _⟩ := ha
  have hR := fun (W : World) (q : Below w.heap.size w W) => RefRight4_any a W ((hin.below q (Nat.le_refl _)).lift q.size) (by omega) (by omega) (by omega)
  rw [hok] at hR
  obtain ⟨org, pa, pc, path, next, med, pref, atomic, has, aas, aad, ca, cc, comms, ra, rc, raws⟩ := a
  dsimp only at h1 h2 h3 h4 h5 h6 h7 h8 h9 hre hcm hnx haa had
  obtain ⟨O, rfl⟩ := Int.eq_ofNat_of_zero_le h1
  obtain ⟨N, rfl⟩ := Int.eq_ofNat_of_zero_le hnx.1
  obtain ⟨SA, rfl⟩ := Int.eq_ofNat_of_zero_le haa.1
  obtain ⟨AD, rfl⟩ := Int.eq_ofNat_of_zero_le had.1
  obtain ⟨mm, hwm, hmm⟩ := u32_wrap med
  obtain ⟨mp, hwp, hmp⟩ := u32_wrap pref
  refine ⟨putA O N SA AD path med pref mm mp atomic has comms raws wide, fun W q => ⟨?_, ?_⟩⟩
  · exact PutA_ok O N SA AD pa pc path med pref atomic has ca cc comms ra rc raws mm mp wide W (ht.below q ht.lt) ((hin.below q (Nat.le_refl _)).lift q.size) hok (by omega) (by omega) (by omega) (by omega) hwm hmm hwp hmp (by omega) (by omega) (by omega) hcm (by omega) (fun s hs => by obtain ⟨_, _, _, _, _, _, h⟩ := hre s hs; exact h)
  · exact RefPut4_ok O N SA AD pa pc path med pref atomic has ca cc comms ra rc raws mm mp wide W ((hin.below q (Nat.le_refl _)).lift q.size) (fun W' q' => hR W' (q.trans (q'.mono q.size))) (by omega) (by omega) (by omega) (by omega) hwm hmm hwp hmp (by omega) (by omega) (by omega) hcm (by omega) hre
set_option maxHeartbeats 1600000 in
theorem RefPut4_no (a : Av) (wide : Bool) (w : World) (hin : a.In w w.heap.size) (hok : a.okB = false) (hpl : a.path.length ≤ 10000) (hpt : totN a.path ≤ 1152921504606846976) (hrl : a.raws.length ≤ 1000) :
    Calls Tryz.prog 23 #[.agg a.row.toArray, .bool wide] w fun e w' => e = .returned (.tuple #[.slice none 0 0, .int .i64 1]) ∧ Below w.heap.size w w' := by
  have hb0 := (Below.refl w.heap.size w).alloc (Nat.le_refl _) (.cells a.row.toArray 28)
  have q := RefRight4_any a _ ((hin.below hb0 (Nat.le_refl _)).lift hb0.size) (by omega) (by omega) (by omega)
  rw [hok] at q
  obtain ⟨org, pa, pc, path, next, med, pref, atomic, has, sa, ad, ca, cc, comms, ra, rc, raws⟩ := a
  have Q1 := Lib.hid q; have HB0 := Lib.hid hb0
  clear q hb0 hin hok
  unfold Av.row at Q1 HB0 ⊢
  dsimp only at Q1 HB0 ⊢
  go_enter Tryz.func23, Tryz.ntmps23
  go_wp2_with fail
  refine Q1.out.mono ?_
  rintro e w1 ⟨rfl, hb1⟩
  have HB1 := Lib.hid (HB0.out.trans (hb1.mono HB0.out.size))
  clear hb1
  go_wp2_with fail
  go_ret2
  exact ⟨rfl, HB1.out⟩
theorem below_two6 {w w1 w2 : World} (h : Below w.heap.size w w1) (k : Below w1.heap.size w1 w2) : Below w.heap.size w w2 := h.trans (k.mono h.size)
end Go.Proofs.YtbfbnoonegdlgaaGreatDoor

/-
  What both Puts tell of an update's attributes: bytes, or an error.
-/
namespace Go.Proofs.YtbfbnoonegdlgaaGreatDoor
set_option linter.unusedVariables false
set_option linter.unusedSimpArgs false
open Go.RowKit

theorem raws_small5 : ∀ (L : List Rw) (b : Int), rawsF b (L.map Rw.abs) = true → ∀ s ∈ L, s.data.length ≤ 64
  | [], _, _, s, hs => by cases hs
  | x :: L, b, h, s, hs => by
    simp only [List.map_cons, rawsF, rawOk, Rw.abs, Bool.and_eq_true, decide_eq_true_eq] at h
    obtain ⟨⟨_, h4⟩, h5⟩ := h
    rcases List.mem_cons.1 hs with rfl | hs
    · exact h4
    · exact raws_small5 L x.ty h5 s hs
theorem putA_small5 (org next sa ad : Nat) (path : List Sg) (med pref : Int) (mm mp : Nat) (atomic has : Bool) (comms : List Nat) (raws : List Rw) (h3 : path.length ≤ 8) (h4 : totN path ≤ 64) (h5 : comms.length ≤ 32) (h6 : raws.length ≤ 8) (h7 : ∀ s ∈ raws, s.data.length ≤ 64) (wide : Bool) :
    (putA org next sa ad path med pref mm mp atomic has comms raws wide).length ≤ 100000 := by
  have p1 := putB_len wide path
  have p2 := putB_len true path
  have q1 := numsB_len true [next]
  have q2 := numsB_len true [mm]
  have q3 := numsB_len true [mp]
  have q4 := numsB_len true comms
  have q5 := aggrB_len wide sa ad
  have q6 := aggrB_len true sa ad
  have q7 := rawsB_len raws h7
  have o1 := oneB_len true 64 1 [UInt8.ofNat org]
  have o2 := oneB_len true 64 2 (putB wide path)
  have o3 := oneB_len true 64 3 (numsB true [next])
  have o4 := oneB_len (decide (0 ≤ med)) 128 4 (numsB true [mm])
  have o5 := oneB_len (decide (0 ≤ pref)) 64 5 (numsB true [mp])
  have o6 := oneB_len atomic 64 6 []
  have o7 := oneB_len has 192 7 (aggrB wide sa ad)
  have o8 := oneB_len (decide (0 < comms.length)) 192 8 (numsB true comms)
  have o9 := oneB_len (!wide && bigs (flatN path)) 192 17 (putB true path)
  have o10 := oneB_len (!wide && bigB sa) 192 18 (aggrB true sa ad)
  unfold putA
  simp only [List.length_append, List.length_cons, List.length_nil] at *
  omega
/-- Attributes that may be: both Puts tell the same bytes, and not too many. -/
theorem puts_both5 (a : Av) (wide : Bool) (w : World) (ht : TabK w) (ha : AvArg w a) (hok : a.okB = true) :
    ∃ d : List UInt8, d.length ≤ 100000 ∧ ∀ W, Below w.heap.size w W → Calls Tryz.prog 44 #[.agg a.row.toArray, .bool wide] W (RetPut W d) ∧ Calls Tryz.prog 23 #[.agg a.row.toArray, .bool wide] W (RetPut W d) := by
  obtain ⟨h1, h2, h3, h4, h5, h6, h7, h8, h9⟩ := okB_facts hok
  have hre := raws_facts a.raws (-1) (Int.le_refl _) h8
  have hrs := raws_small5 a.raws (-1) h8
  obtain ⟨hin, hcm, _, _, hnx, haa, had, _, _, _⟩ := ha
  have hR := fun (W : World) (q : Below w.heap.size w W) => RefRight4_any a W ((hin.below q (Nat.le_refl _)).lift q.size) (by omega) (by omega) (by omega)
  rw [hok] at hR
  obtain ⟨org, pa, pc, path, next, med, pref, atomic, has, aas, aad, ca, cc, comms, ra, rc, raws⟩ := a
  dsimp only at h1 h2 h3 h4 h5 h6 h7 h8 h9 hre hcm hnx haa had hrs
  obtain ⟨O, rfl⟩ := Int.eq_ofNat_of_zero_le h1
  obtain ⟨N, rfl⟩ := Int.eq_ofNat_of_zero_le hnx.1
  obtain ⟨SA, rfl⟩ := Int.eq_ofNat_of_zero_le haa.1
  obtain ⟨AD, rfl⟩ := Int.eq_ofNat_of_zero_le had.1
  obtain ⟨mm, hwm, hmm⟩ := u32_wrap med
  obtain ⟨mp, hwp, hmp⟩ := u32_wrap pref
  refine ⟨putA O N SA AD path med pref mm mp atomic has comms raws wide, putA_small5 O N SA AD path med pref mm mp atomic has comms raws h3 h4 h7 h9 hrs wide, fun W q => ⟨?_, ?_⟩⟩
  · exact PutA_ok O N SA AD pa pc path med pref atomic has ca cc comms ra rc raws mm mp wide W (ht.below q ht.lt) ((hin.below q (Nat.le_refl _)).lift q.size) hok (by omega) (by omega) (by omega) (by omega) hwm hmm hwp hmp (by omega) (by omega) (by omega) hcm (by omega) (fun s hs => by obtain ⟨_, _, _, _, _, _, h⟩ := hre s hs; exact h)
  · exact RefPut4_ok O N SA AD pa pc path med pref atomic has ca cc comms ra rc raws mm mp wide W ((hin.below q (Nat.le_refl _)).lift q.size) (fun W' q' => hR W' (q.trans (q'.mono q.size))) (by omega) (by omega) (by omega) (by omega) hwm hmm hwp hmp (by omega) (by omega) (by omega) hcm (by omega) hre
theorem rete_of_put {w w' : World} {d : List UInt8} {e : Ending} (h : RetPut w d e w') : RetE w d 0 e w' := h
theorem rete_no {w w' : World} {e : Ending} (h : e = .returned (.tuple #[.slice none 0 0, .int .i64 1]) ∧ Below w.heap.size w w') : RetE w [] 1 e w' :=
  ⟨none, 0, h.1, Nat.le_refl _, Nat.zero_le _, Own.nil _ _ _, h.2⟩
/-- Attributes that came in, few enough: both Puts tell the same, bytes or an error. -/
theorem puts5 (a : Av) (wide : Bool) (w : World) (ht : TabK w) (ha : AvArg w a) (hpl : a.path.length ≤ 10000) (hpt : totN a.path ≤ 1152921504606846976) (hrl : a.raws.length ≤ 1000) :
    ∃ (d : List UInt8) (E : Int), (E = 0 ∨ E = 1) ∧ d.length ≤ 100000 ∧ ∀ W, Below w.heap.size w W → Calls Tryz.prog 44 #[.agg a.row.toArray, .bool wide] W (RetE W d E) ∧ Calls Tryz.prog 23 #[.agg a.row.toArray, .bool wide] W (RetE W d E) := by
  cases hok : a.okB with
  | true =>
    obtain ⟨d, hl, hd⟩ := puts_both5 a wide w ht ha hok
    exact ⟨d, 0, .inl rfl, hl, fun W q => ⟨(hd W q).1.mono fun e w' h => rete_of_put h, (hd W q).2.mono fun e w' h => rete_of_put h⟩⟩
  | false =>
    refine ⟨[], 1, .inr rfl, by simp, fun W q => ⟨?_, ?_⟩⟩
    · exact (PutA_no a wide W (ht.below q ht.lt) ((ha.inn.below q (Nat.le_refl _)).lift q.size) hok hpl hpt hrl).mono fun e w' h => rete_no h
    · exact (RefPut4_no a wide W ((ha.inn.below q (Nat.le_refl _)).lift q.size) hok hpl hpt hrl).mono fun e w' h => rete_no h
end Go.Proofs.YtbfbnoonegdlgaaGreatDoor

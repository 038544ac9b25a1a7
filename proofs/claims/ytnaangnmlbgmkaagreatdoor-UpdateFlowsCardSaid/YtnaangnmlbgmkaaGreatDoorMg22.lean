/-
  Texts of this seat, put together: Awake4, StU5, ReadR5, OwnR5, StV5, Puts4W, APuts5.
-/
import Derived.Test.YtnaangnmlbgmkaaGreatDoorReadB4Mg
import Derived.Test.YtnaangnmlbgmkaaGreatDoorSame4Mg
import Derived.Test.YtnaangnmlbgmkaaGreatDoorMg4
import Derived.Test.YtnaangnmlbgmkaaGreatDoorMg8
import Derived.Test.YtnaangnmlbgmkaaGreatDoorMg19
import Derived.Test.YtnaangnmlbgmkaaGreatDoorAttr4Mg
import Derived.Test.YtnaangnmlbgmkaaGreatDoorMg1
import Derived.Test.YtnaangnmlbgmkaaGreatDoorRefRight4Mg
import Derived.Test.YtnaangnmlbgmkaaGreatDoorRefPut4Mg
/-
  The example that every statement of this layer asks for.
-/
namespace Go.Proofs.YtnaangnmlbgmkaaGreatDoor
set_option linter.unusedVariables false
set_option linter.unusedSimpArgs false
open Go.RowKit

/-- The kinds that are laid so far. -/
def okP (k : Nat) : Bool := k == 1 || k == 2 || k == 3 || k == 4 || k == 5 || k == 6 || k == 17
theorem steps_p (B : Nat) (wide : Bool) : Steps okP B wide := by
  intro gx f k S T A A2 c n2 c2 B' v r b W hk hB hB2 hI ht ho hc hm hl hs _
  have hk' : k = 1 ∨ k = 2 ∨ k = 3 ∨ k = 4 ∨ k = 5 ∨ k = 6 ∨ k = 17 := by
    unfold okP at hk
    simp only [Bool.or_eq_true, beq_iff_eq] at hk
    omega
  have hy := ho.bytes
  rcases hk' with rfl | rfl | rfl | rfl | rfl | rfl | rfl
  · exact (take1_step B gx f wide S T A A2 c n2 c2 v r b W hI ht hy hc hm hl hs).mono fun e W' h => h.all hB hB2
  · exact (take2_step B gx f wide S T A A2 c n2 c2 v r b W hI ht hy hc hm hl hs).mono fun e W' h => h.all hB hB2
  · exact (take3_step B gx f wide S T A A2 c n2 c2 v r b W hI ht hy hc hm hl hs).mono fun e W' h => h.all hB hB2
  · exact (take4_step B gx f wide S T A A2 c n2 c2 v r b W hI ht hy hc hm hl hs).mono fun e W' h => h.all hB hB2
  · exact (take5_step B gx f wide S T A A2 c n2 c2 v r b W hI ht hy hc hm hl hs).mono fun e W' h => h.all hB hB2
  · exact (take6_step B gx f wide S T A A2 c n2 c2 v r b W hI ht hy hc hm hl hs).mono fun e W' h => h.all hB hB2
  · exact (take17_step B gx f wide S T A A2 c n2 c2 v r b W hI ht hy hc hm hl hs).mono fun e W' h => h.all hB hB2
/-- The example's bytes. -/
def exB : List UInt8 := putA 0 167772161 0 0 [] (-1) (-1) 4294967295 4294967295 false false [] [] true
def exS : Rs := ⟨0, [], 167772161, -1, -1, false, false, 0, 0, [], [], [1, 2, 3], [], []⟩
theorem exB_is : exB = wholeL 64 1 [0] ++ (wholeL 64 2 [] ++ (wholeL 64 3 [10, 0, 0, 1] ++ [])) := by decide +kernel
theorem exRun : RunK okP true exB rs0 exS := by
  rw [exB_is]
  obtain ⟨f1, h1, e1⟩ := nextA_whole (f := 64) (k := 1) (v := [0]) (r := wholeL 64 2 [] ++ (wholeL 64 3 [10, 0, 0, 1] ++ [])) (.inl rfl) (by decide) (by decide)
  obtain ⟨f2, h2, e2⟩ := nextA_whole (f := 64) (k := 2) (v := []) (r := wholeL 64 3 [10, 0, 0, 1] ++ []) (.inl rfl) (by decide) (by decide)
  obtain ⟨f3, h3, e3⟩ := nextA_whole (f := 64) (k := 3) (v := [10, 0, 0, 1]) (r := []) (.inl rfl) (by decide) (by decide)
  refine RunK.more (T := ⟨0, [], 0, -1, -1, false, false, 0, 0, [], [], [1], [], []⟩) (by decide) (by rw [e1]) (by rw [e1]; rfl) (by rw [e1]; exact st1 (by simp [rs0]) ⟨h1, rfl, by decide⟩) ?_
  rw [e1]
  refine RunK.more (T := ⟨0, [], 0, -1, -1, false, false, 0, 0, [], [], [1, 2], [], []⟩) (by show wholeL 64 2 [] ++ (wholeL 64 3 [10, 0, 0, 1] ++ []) ≠ []; decide) (by rw [e2]) (by rw [e2]; rfl) (by rw [e2]; exact st2 (by simp) h2 (by decide +kernel)) ?_
  rw [e2]
  refine RunK.more (T := exS) (by show wholeL 64 3 [10, 0, 0, 1] ++ [] ≠ []; decide) (by rw [e3]) (by rw [e3]; rfl) (by rw [e3]; exact st3 (by simp) ⟨h3, rfl, by decide⟩) ?_
  rw [e3]
  exact RunK.nil _ _ _
theorem exLen : exB.length = 14 := by decide +kernel
/-- The example's attributes. -/
def exA : Av := ⟨((0 : Nat) : Int), none, 0, [], ((167772161 : Nat) : Int), -1, -1, false, false, ((0 : Nat) : Int), ((0 : Nat) : Int), none, 0, [], none, 0, []⟩
theorem exA_in (w : World) : exA.In w w.heap.size := ⟨Segs.nil _ _ _, ⟨Nat.le_refl _, Nat.zero_le _⟩, At32.nil _ _ _, ⟨Nat.le_refl _, Nat.zero_le _⟩, RwIn.nil _ _ _, ⟨Nat.le_refl _, Nat.zero_le _⟩, fun s hs => by cases hs⟩
theorem exPut (w : World) (ht : TabK w) : Calls Tryz.prog 44 #[.agg #[.int .i64 0, .slice none 0 0, .int .u32 167772161, .int .i64 (-1), .int .i64 (-1), .bool false, .bool false, .int .u32 0, .int .u32 0, .slice none 0 0, .slice none 0 0], .bool true] w (RetPut w exB) :=
  PutA_ok 0 167772161 0 0 none 0 [] (-1) (-1) false false none 0 [] none 0 [] 4294967295 4294967295 true w ht (exA_in w) (by decide +kernel) (by decide) (by decide) (by decide) (by decide) (by decide) (by decide) (by decide) (by decide) (by decide) (by decide) (by decide) (fun n hn => by cases hn) (by decide) (fun s hs => by cases hs)
theorem exSame {x : Av} (h1 : x.org = ((0 : Nat) : Int)) (h2 : x.path.map Sg.abs = []) (h3 : x.next = ((167772161 : Nat) : Int)) (h4 : x.med = -1) (h5 : x.pref = -1) (h6 : x.atomic = false) (h7 : x.has = false) (h8 : x.aas = ((0 : Nat) : Int)) (h9 : x.aad = ((0 : Nat) : Int)) (h10 : x.comms = []) (h11 : x.raws.map Rw.abs = []) : x.same exA = true := by
  have e1 : x.path = [] := by simpa using h2
  have e2 : x.raws = [] := by simpa using h11
  unfold Av.same exA
  rw [h1, h3, h4, h5, h6, h7, h8, h9, h10, e1, e2]
  decide
end Go.Proofs.YtnaangnmlbgmkaaGreatDoor

/-
  Updates as values: stores; what the attributes of nothing are.
-/
namespace Go.Proofs.YtnaangnmlbgmkaaGreatDoor
set_option linter.unusedVariables false
set_option linter.unusedSimpArgs false
open Go.RowKit

theorem blk_fill5 {g T : Nat} : ∀ (vs cs pre : List Value) (w : World), Blk w g T (pre ++ cs) → cs.length = vs.length → Blk (w.setCells g pre.length vs) g T (pre ++ vs)
  | [], [], pre, w, h, _ => h
  | v :: vs, c :: cs, pre, w, h, hl => by
    have h1 := h.set pre.length v
    have e : (pre ++ c :: cs).set pre.length v = (pre ++ [v]) ++ cs := by simp
    rw [e] at h1
    have h2 := blk_fill5 vs cs (pre ++ [v]) _ h1 (by simpa using hl)
    have e2 : (pre ++ [v]).length = pre.length + 1 := by simp
    rw [e2] at h2
    simpa [World.setCells] using h2
  | [], _ :: _, _, _, _, hl => by simp at hl
  | _ :: _, [], _, _, _, hl => by simp at hl
theorem grown_setCells5 {g : Nat} : ∀ (vs : List Value) (o : Nat) (w w1 : World), w.grownBy w1 (some g) → w.grownBy (w1.setCells g o vs) (some g)
  | [], _, _, _, h => h
  | v :: vs, o, w, w1, h => grown_setCells5 vs (o + 1) w _ (grown_setCell h o v)
theorem rowU_one (u : Uv) : ∀ v ∈ u.row, v.oneCell' = true := by
  intro v hv
  simp only [Uv.row, Av.row, List.mem_cons, List.mem_append, List.not_mem_nil, or_false, List.cons_append, List.nil_append] at hv
  rcases hv with rfl | rfl | rfl | rfl | rfl | rfl | rfl | rfl | rfl | rfl | rfl | rfl | rfl <;> rfl
theorem run_storeU {w : World} {g T : Nat} {cs : List Value} {u : Uv} (h : Blk w g T cs) (hl : cs.length = 13) :
    ∃ w', (Instr.storeAt 30 (.pointer (some ⟨g, 0, none⟩)) u.agg).run Tryz.prog w = .ok () w' ∧ Blk w' g T u.row ∧ w.grownBy w' (some g) := by
  have hr : u.row.length = 13 := rfl
  have hs := run_storeCells_cells (P := Tryz.prog) g 0 u.row 0 w (fun j hj => by rw [h.cell, List.getElem?_eq_getElem (by omega)]; rfl) (fun j hj => h.free _) (rowU_one u)
  refine ⟨w.setCells g 0 u.row, ?_, blk_fill5 u.row cs [] w h (by omega), grown_setCells5 _ _ _ _ (grown_refl _ _)⟩
  have e : (Value.cells u.agg).toList = u.row := rfl
  have e2 : (Value.cells u.agg).size = 13 := rfl
  simp [Instr.storeAt, Instr.sureAddr, storeVar, Sem.run_bind, sizeU, e, e2, hs, Result.andThen]
section
variable {ops : Array Oper} {rest : List Oper} {o : Oper} {a : Act} {Q : Exit → Act → World → Prop}
theorem wpList_storeU (w : World) (hg : o.guard = none) (hd : o.dst = none) (p x : Operand) (hop : o.op = Op.store 30 p x) (g T : Nat) (cs : List Value) (u : Uv) (hp : a.eval p = .pointer (some ⟨g, 0, none⟩)) (hx : a.eval x = u.agg) (h : Blk w g T cs) (hl : cs.length = 13)
    (hK : ∀ w', Blk w' g T u.row → w.grownBy w' (some g) → wpList Tryz.prog ops Q rest a w') : wpList Tryz.prog ops Q (o :: rest) a w := by
  refine wpList_plain hg fun K' hK' => ?_
  obtain ⟨w', hrun, r1, r2⟩ := run_storeU (u := u) h hl
  unfold Oper.wp
  simp [execOp, hop, hp, hx, hrun, Result.andThen, hd]
  have e : a.put none undef = a := rfl
  exact hK' _ _ (by rw [hd]; exact hK w' r1 r2)
theorem wpList_loadGU (w : World) (hw : Region.wanted o (yielded ops a.tmps) = true) (p : Operand) (hop : o.op = Op.load 30 p) (g : Nat) (c : Uv) (hp : a.eval p = .pointer (some ⟨g, 0, none⟩)) (h : UvAt w g c)
    (hK : wpList Tryz.prog ops Q rest (a.put o.dst c.agg) w) : wpList Tryz.prog ops Q (o :: rest) a w := by
  refine wpList_step fun K' hK' => ?_
  rw [if_pos hw]
  unfold Oper.wp
  simp [execOp, hop, hp, run_loadU h, Result.andThen]
  exact hK' _ _ hK
end
/-- Attributes of nothing at all. -/
def noneA : Av := ⟨0, none, 0, [], 0, 0, 0, false, false, 0, 0, none, 0, [], none, 0, []⟩
theorem noneA_in (w : World) : noneA.In w w.heap.size := ⟨Segs.nil _ _ _, ⟨Nat.le_refl _, Nat.zero_le _⟩, At32.nil _ _ _, ⟨Nat.le_refl _, Nat.zero_le _⟩, RwIn.nil _ _ _, ⟨Nat.le_refl _, Nat.zero_le _⟩, fun s hs => by cases hs⟩
def noneU : List Value := [.slice none 0 0, .int .i64 0, .slice none 0 0, .int .u32 0, .int .i64 0, .int .i64 0, .bool false, .bool false, .int .u32 0, .int .u32 0, .slice none 0 0, .slice none 0 0, .slice none 0 0]
theorem cells13 {w : World} {g T : Nat} {u0 u1 u2 u3 u4 u5 u6 u7 u8 u9 u10 u11 u12 : Value} (h : Blk w g T [u0, u1, u2, u3, u4, u5, u6, u7, u8, u9, u10, u11, u12]) : w.cell? ⟨g, 0, none⟩ = some u0 ∧ w.cell? ⟨g, 1, none⟩ = some u1 ∧ w.cell? ⟨g, 2, none⟩ = some u2 ∧ w.cell? ⟨g, 3, none⟩ = some u3 ∧ w.cell? ⟨g, 4, none⟩ = some u4 ∧ w.cell? ⟨g, 5, none⟩ = some u5 ∧ w.cell? ⟨g, 6, none⟩ = some u6 ∧ w.cell? ⟨g, 7, none⟩ = some u7 ∧ w.cell? ⟨g, 8, none⟩ = some u8 ∧ w.cell? ⟨g, 9, none⟩ = some u9 ∧ w.cell? ⟨g, 10, none⟩ = some u10 ∧ w.cell? ⟨g, 11, none⟩ = some u11 ∧ w.cell? ⟨g, 12, none⟩ = some u12 :=
  ⟨h.cell 0, h.cell 1, h.cell 2, h.cell 3, h.cell 4, h.cell 5, h.cell 6, h.cell 7, h.cell 8, h.cell 9, h.cell 10, h.cell 11, h.cell 12⟩
end Go.Proofs.YtnaangnmlbgmkaaGreatDoor

/-
  Attributes out of wide bytes, with the rows as they lie.
-/
namespace Go.Proofs.YtnaangnmlbgmkaaGreatDoor
set_option linter.unusedVariables false
set_option linter.unusedSimpArgs false
open Go.RowKit

/-- What attrs.Read leaves: its rows as they lie, told apart by their kinds. -/
def RetRdR (w : World) (S : Rs) (e : Ending) (w' : World) : Prop :=
  ∃ (pA : Option Addr) (pn pc : Nat) (cA : Option Addr) (cn cc : Nat) (rA : Option Addr) (rn rc : Nat) (kA : Option Addr) (kc : Nat) (wv av : Value), e = .returned (.tuple #[.agg #[.int .i64 (S.org : Int), .slice pA pn pc, .int .u32 (S.next : Int), .int .i64 S.med, .int .i64 S.pref, .bool S.atomic, .bool S.has, .int .u32 (S.aas : Int), .int .u32 (S.aad : Int), .slice cA cn cc, .slice rA rn rc], .slice kA S.kinds.length kc, fault0]) ∧ RowsR w.heap.size w' S (.slice pA pn pc) (.slice cA cn cc) (.slice rA rn rc) (.slice kA S.kinds.length kc) wv av ∧ Below w.heap.size w w'
set_option maxRecDepth 100000 in
set_option maxHeartbeats 12800000 in
theorem ReadA_rows (ok : Nat → Bool) (A : Option Addr) (c : Nat) (l : List UInt8) (w : World) (ht : TabK w) (h : Bytes w A l) (hc : l.length ≤ c) (hm : c ≤ maxLen) (hl : l.length ≤ 1000000) (Sf : Rs) (hr : RunK ok true l rs0 Sf) (hst : Steps ok w.heap.size true) :
    Calls Tryz.prog 31 #[.slice A l.length c, .bool true] w (RetRdR w Sf) := by
  have hb0 := ((Below.refl w.heap.size w).alloc (Nat.le_refl _) (.cells zeroRow0.toArray 28)).alloc (by simp) (.cells #[.int .i64 0, .int .i64 0, .slice none 0 0] 43)
  obtain ⟨W0, hW0⟩ : ∃ W0, W0 = (w.alloc (.cells zeroRow0.toArray 28)).alloc (.cells #[.int .i64 0, .int .i64 0, .slice none 0 0] 43) := ⟨_, rfl⟩
  have kr : Blk W0 w.heap.size 28 zeroRow0 := by
    rw [hW0]
    exact (Blk.new w _ _).below ((Below.refl _ _).alloc (Nat.le_refl _) _) (by simp)
  have kf : Blk W0 (w.heap.size + 1) 43 [.int .i64 0, .int .i64 0, .slice none 0 0] := by
    have := Blk.new (w.alloc (.cells zeroRow0.toArray 28)) 43 [.int .i64 0, .int .i64 0, .slice none 0 0]
    rw [hW0]
    simpa using this
  rw [← hW0] at hb0
  have HW0 := Lib.hid hW0; have HB0 := Lib.hid hb0; have HKR := Lib.hid kr; have HKF := Lib.hid kf
  have HT := Lib.hid (fun (W : World) (hb : Below w.heap.size w W) => ht.below hb ht.lt)
  have HY := Lib.hid h; have HC := Lib.hid (And.intro hc (And.intro hm hl)); have HR := Lib.hid hr; have HST := Lib.hid hst
  have hz : W0.heap.size = w.heap.size + 2 := by rw [hW0]; simp
  have HZ := Lib.hid hz
  unfold zeroRow0 at HW0
  clear hb0 hW0 kr kf ht h hc hm hl hr hst hz
  have QZ := Lib.hid (Zero_any W0)
  unfold zeroRow at QZ
  go_enter Tryz.func31, Tryz.ntmps31
  go_wp2_with (rw [← HW0.out])
  refine QZ.out.mono ?_
  rintro e w1 ⟨rfl, hb1⟩
  obtain ⟨W1, hW1⟩ : ∃ W1, W1 = w1.alloc (.cells (rdRow true rs0 (.slice none 0 0) (.slice none 0 0) (.slice none 0 0) (.slice none 0 0) (.slice none 0 0) (.slice none 0 0)).toArray 99) := ⟨_, rfl⟩
  have hb01 : Below W0.heap.size W0 W1 := by rw [hW1]; exact hb1.alloc hb1.size _
  have hbw : Below w.heap.size w W1 := HB0.out.trans (hb01.mono HB0.out.size)
  have kx : Blk W1 w1.heap.size 99 (rdRow true rs0 (.slice none 0 0) (.slice none 0 0) (.slice none 0 0) (.slice none 0 0) (.slice none 0 0) (.slice none 0 0)) := by rw [hW1]; exact Blk.new w1 _ _
  have hs1 : W1.heap.size = w1.heap.size + 1 := by rw [hW1]; simp
  have hgx : w.heap.size + 1 < w1.heap.size := by have := hb1.size; have := HZ.out; omega
  have QN := Lib.hid (New_low w.heap.size A l.length c l rfl W1 (At.below HY.out hbw (Nat.le_refl _)) hbw.size HC.out.1 HC.out.2.1)
  have HL0 := Lib.hid (fun (W2 : World) (hr : Rd W2 w.heap.size W1.heap.size l false) (hb : Below W1.heap.size W1 W2) =>
    show LoopA w w1.heap.size W1.heap.size ok true l Sf rs0 l W2 from
    ⟨hbw.trans (hb.mono hbw.size), (HKR.out.below hb01 HKR.out.lt).below hb (HKR.out.below hb01 HKR.out.lt).lt, (HKF.out.below hb01 HKF.out.lt).below hb (HKF.out.below hb01 HKF.out.lt).lt, hgx, by omega, hr,
      ⟨_, _, _, _, _, _, kx.below hb kx.lt, ⟨PathO.nil _, ⟨0, World.ownsRow_nil _ _ _ _⟩, ⟨[], ⟨World.ownsRow_nil _ _ _ _, fun s hs => by cases hs⟩, rfl⟩, World.ownsRow_nil _ _ _ _, PathO.nil _, ⟨0, World.ownsRow_nil _ _ _ _⟩, fun _ => rfl⟩⟩, HR.out, by simp [rs0], fun _ => rfl⟩)
  have HW1 := Lib.hid (show W1 = w1.alloc (.cells #[.bool true, .int .i64 0, .slice none 0 0, .int .u32 0, .int .i64 (-1), .int .i64 (-1), .bool false, .bool false, .int .u32 0, .int .u32 0, .slice none 0 0, .slice none 0 0, .slice none 0 0, .slice none 0 0, .slice none 0 0] 99) from hW1)
  clear hb1 hW1 hb01 hbw kx hs1 hgx QZ
  go_wp2_with (rw [← HW1.out])
  refine QN.out.mono ?_
  rintro e w2 ⟨rfl, hr2, hb2⟩
  have LS := Lib.hid (HL0.out w2 hr2 hb2)
  clear hr2 hb2 HL0 QN
  generalize w1.heap.size = gx at *
  generalize W1.heap.size = gr at *
  clear HW1
  go_wp2_with fail
  go_loopw [10] (fun _ wr => ∃ S r, LoopA w gx gr ok true l Sf S r wr) (fun _ wr => leftAt wr gr)
  case atStart => exact ⟨_, _, LS.out⟩
  case round =>
    obtain ⟨S, r, LA⟩ := hrel
    have L := Lib.hid LA
    have HLA := Lib.hid (rd_left LA.rd)
    have QL := Lib.hid (Left_any _ _ _ _ wr LA.rd)
    by_cases hr : r = []
    · subst hr
      obtain rfl := LA.run.stop
      obtain ⟨pv, cv, rv, kv, wv, av, k1, k2⟩ := LA.inn
      have k3 := k2
      obtain ⟨⟨_, _, M0, po, _⟩, ⟨_, co⟩, ⟨_, ro, _⟩, ko, _, _⟩ := k3
      obtain ⟨pA, pc, hpv, _, _⟩ := own_form po.row
      obtain ⟨cA, cc, hcv, _, _⟩ := own_form co
      obtain ⟨rA, rc, hrv, _, _⟩ := own_form ro.row
      obtain ⟨kA, kc, hkv, _, _⟩ := own_form ko
      clear po co ro ko
      generalize M0.length = pn at hpv
      generalize S.comms.length = cn at hcv
      generalize List.length _ = rn at hrv
      subst hpv hcv hrv hkv
      have QW := Lib.hid (widen_wide gx wr (k1.cell 0))
      have d : ∀ i u, (rdRow true S (.slice pA pn pc) (.slice cA cn cc) (.slice rA rn rc) (.slice kA S.kinds.length kc) wv av)[i]? = some u → wr.cell? ⟨gx, i, none⟩ = some u := fun i u hu => by rw [k1.cell]; exact hu
      have d1 := d 1 _ rfl
      have d2 := d 2 _ rfl
      have d3 := d 3 _ rfl
      have d4 := d 4 _ rfl
      have d5 := d 5 _ rfl
      have d6 := d 6 _ rfl
      have d7 := d 7 _ rfl
      have d8 := d 8 _ rfl
      have d9 := d 9 _ rfl
      have d10 := d 10 _ rfl
      have d11 := d 11 _ rfl
      have d12 := d 12 _ rfl
      have ca := cells11 LA.res
      have fa := free11 LA.res
      have hgr := grown_set11 wr w.heap.size (.int .i64 (S.org : Int)) (.slice pA pn pc) (.int .u32 (S.next : Int)) (.int .i64 S.med) (.int .i64 S.pref) (.bool S.atomic) (.bool S.has) (.int .u32 (S.aas : Int)) (.int .u32 (S.aad : Int)) (.slice cA cn cc) (.slice rA rn rc)
      have kf := LA.flt.grown hgr (by omega)
      have ff := free3 kf
      have cf := cells3 kf
      have hgf := grown_set3 (((((((((((wr.setCell ⟨w.heap.size, 0, none⟩ (.int .i64 (S.org : Int))).setCell ⟨w.heap.size, 1, none⟩ (.slice pA pn pc)).setCell ⟨w.heap.size, 2, none⟩ (.int .u32 (S.next : Int))).setCell ⟨w.heap.size, 3, none⟩ (.int .i64 S.med)).setCell ⟨w.heap.size, 4, none⟩ (.int .i64 S.pref)).setCell ⟨w.heap.size, 5, none⟩ (.bool S.atomic)).setCell ⟨w.heap.size, 6, none⟩ (.bool S.has)).setCell ⟨w.heap.size, 7, none⟩ (.int .u32 (S.aas : Int))).setCell ⟨w.heap.size, 8, none⟩ (.int .u32 (S.aad : Int))).setCell ⟨w.heap.size, 9, none⟩ (.slice cA cn cc)).setCell ⟨w.heap.size, 10, none⟩ (.slice rA rn rc)) (w.heap.size + 1) (.int .i64 0) (.int .i64 0) (.slice none 0 0)
      have ks := LA.res.set11 (.int .i64 (S.org : Int)) (.slice pA pn pc) (.int .u32 (S.next : Int)) (.int .i64 S.med) (.int .i64 S.pref) (.bool S.atomic) (.bool S.has) (.int .u32 (S.aas : Int)) (.int .u32 (S.aad : Int)) (.slice cA cn cc) (.slice rA rn rc)
      have K5 := Lib.hid ((k2.keep LA.res (by decide) (by decide) (by decide) (by decide) (by decide) hgr).keep kf (by decide) (by decide) (by decide) (by decide) (by decide) hgf)
      have ra := cells11d (ks.grown hgf (by omega))
      have rf := cells3d (kf.set3 (.int .i64 0) (.int .i64 0) (.slice none 0 0))
      have HBE := Lib.hid ((LA.below.grown hgr LA.below.size (fun k hk => by cases hk; exact Nat.le_refl _)).grown hgf (Nat.le_trans LA.below.size hgr.size) (fun k hk => by cases hk; omega))
      clear k1 k2 d kf LA LS HLA hgr hgf ks
      go_wp2_with fail
      refine QL.out.mono ?_
      rintro e wx ⟨rfl, rfl⟩
      go_wp2_with fail
      refine QW.out.mono ?_
      rintro e wx ⟨rfl, rfl⟩
      have HRA := Lib.hid ra; have HRF := Lib.hid rf
      clear ra rf
      go_wp2_with fail
      go_region
      clear ca fa cf ff d1 d2 d3 d4 d5 d6 d7 d8 d9 d10 d11 d12
      go_wp2_with fail
      have ra := HRA.out
      have rf := HRF.out
      refine bodyPost_ret (v := .tuple #[.agg #[.int .i64 (S.org : Int), .slice pA pn pc, .int .u32 (S.next : Int), .int .i64 S.med, .int .i64 S.pref, .bool S.atomic, .bool S.has, .int .u32 (S.aas : Int), .int .u32 (S.aad : Int), .slice cA cn cc, .slice rA rn rc], .slice kA S.kinds.length kc, fault0])
        ?_ rfl ⟨pA, pn, pc, cA, cn, cc, rA, rn, rc, kA, kc, wv, av, rfl, K5.out.below (Below.refl _ _).drew, HBE.out.drew⟩
      simp [results, Tryz.results31, go_sem, fault0, ra, rf]
    · have hp0 : 0 < r.length := List.length_pos_iff.2 hr
      have hpI : (0 : Int) < (r.length : Int) := by omega
      obtain ⟨hbad, hok, T, hs, hrun⟩ := LA.run.step hr
      have hnl := next_less hr
      have hnv := next_val r
      have hkn := step_kinds hs
      have hrl : r.length ≤ l.length := by have := LA.len; omega
      have HBY := Lib.hid ((At.below HY.out LA.below (Nat.le_refl _)).lift LA.below.size)
      have QX := Lib.hid (next4_any w.heap.size gr r l A c wr LA.rd (by have := HC.out.2.2; omega) HC.out.2.2 HC.out.1 HC.out.2.1 hrl hbad)
      have HSTEP := Lib.hid (And.intro hok (And.intro hs (And.intro hrun (And.intro hnl hkn))))
      obtain ⟨P, hP⟩ : ∃ P, P = nextA r := ⟨_, rfl⟩
      rw [← hP] at QX HSTEP hbad hnv
      have HNV := Lib.hid (show P.val.length ≤ 1000000 by have := HC.out.2.2; omega)
      clear hok hs hrun hnl hkn hrl hP LA hr LS hnv
      go_wp2_with fail
      refine QL.out.mono ?_
      rintro e wx ⟨rfl, rfl⟩
      go_wp2_with fail
      refine QX.out.mono ?_
      rintro e w3 ⟨A3, c3, A4, n4, c4, rfl, f1, f2, ho, hr3, hg3⟩
      rw [hbad] at hr3
      obtain ⟨q1, q2, q3, q4⟩ := L.out.next hr3 hg3
      have m3 : MidA w gx gr P.rest w3 := ⟨q1, q2, q3, L.out.gxl, L.out.grl, hr3⟩
      obtain ⟨W4, hW4⟩ : ∃ W4, W4 = w3.alloc (.cells #[.int .i64 (P.fl : Int), .int .i64 (P.kind : Int), .slice A3 P.val.length c3, .slice A4 n4 c4] 101) := ⟨_, rfl⟩
      have hb4 : Below w3.heap.size w3 W4 := by rw [hW4]; exact (Below.refl _ _).alloc (Nat.le_refl _) _
      have kp : Blk W4 w3.heap.size 101 [.int .i64 (P.fl : Int), .int .i64 (P.kind : Int), .slice A3 P.val.length c3, .slice A4 n4 c4] := by rw [hW4]; exact Blk.new w3 _ _
      have hgx3 : gx < w3.heap.size := by have h1 := L.out.grl; have h2 := hr3.lt; omega
      have q5 := q4.below hb4
      obtain ⟨pv, cv, rv, kv, wv, av, k1, k2⟩ := q5
      obtain ⟨kA, kc, hkv, kf1, kf2⟩ := own_form k2.kinds
      have hkl : S.kinds.length ≤ 1000000 := by have := L.out.len; have := HC.out.2.2; omega
      have QC := Lib.hid (ContainsNot_any kA kc S.kinds P.kind W4 (at64_own (c := kc) (by rw [← hkv]; exact k2.kinds)) HSTEP.out.2.2.2.2.1 hkl)
      have QT := Lib.hid (HST.out gx P.fl P.kind S T A3 A4 c3 n4 c4 _ P.val P.rest P.bad W4 HSTEP.out.1 (by have := L.out.gxl; omega) (m3.later hb4).below.size ⟨pv, cv, rv, kv, wv, av, k1, k2⟩ (HT.out W4 (m3.later hb4).below) (Own.below ho hb4) f1 f2 HNV.out HSTEP.out.2.1 (fun h8 => L.out.c8 (fun hm => HSTEP.out.2.2.2.2.1 (h8 ▸ hm))))
      have x12 : W4.cell? ⟨gx, 12, none⟩ = some (.slice kA S.kinds.length kc) := by rw [← hkv]; exact k1.cell 12
      have pc := cells4 kp
      have M4 := Lib.hid (m3.later hb4); have HW4 := Lib.hid hW4; have HKP := Lib.hid kp; have HGX := Lib.hid hgx3
      clear f1 f2 ho hr3 hg3 q1 q2 q3 q4 m3 hW4 hb4 kp hgx3 k1 k2 hkv kf1 kf2 hkl QX QL
      go_wp2_with (rw [← HW4.out])
      refine QC.out.mono ?_
      rintro e w5 ⟨rfl, rfl⟩
      go_wp2_with fail
      refine QT.out.mono ?_
      rintro e w5 ⟨rfl, hb5, hk5, hI5⟩
      have m5 := M4.out.take hb5 hk5
      have kp5 := hk5 _ _ _ (by have := HGX.out; omega) (by decide) HKP.out
      obtain ⟨W5, hW5⟩ : ∃ W5, W5 = w5.alloc (.cells #[.int .i64 0, .int .i64 0, .slice none 0 0] 43) := ⟨_, rfl⟩
      have hb6 : Below w5.heap.size w5 W5 := by rw [hW5]; exact (Below.refl _ _).alloc (Nat.le_refl _) _
      have kf5 : Blk W5 w5.heap.size 43 [.int .i64 0, .int .i64 0, .slice none 0 0] := by rw [hW5]; exact Blk.new w5 _ _
      have f50 : W5.cell? ⟨w5.heap.size, 0, none⟩ = some (.int .i64 0) := kf5.cell 0
      have p51 : W5.cell? ⟨w3.heap.size, 1, none⟩ = some (.int .i64 (P.kind : Int)) := (kp5.below hb6 kp5.lt).cell 1
      obtain ⟨pv', cv', rv', kv', wv', av', k1, k2⟩ := hI5.below hb6
      obtain ⟨kA', kc', hkv, kf1, kf2⟩ := own_form k2.kinds
      have x52 : W5.cell? ⟨gx, 12, none⟩ = some (.slice kA' S.kinds.length kc') := by rw [← hkv]; exact k1.cell 12
      have M5 := Lib.hid (m5.later hb6); have HK1 := Lib.hid k1; have HK2 := Lib.hid k2; have HKV := Lib.hid hkv
      have HROW : Hid (W5.ownsRow w.heap.size 3 1 (.slice kA' S.kinds.length kc') S.kinds.length (S.kinds.map fun (k : Nat) => Value.int .i64 (k : Int))) := Lib.hid (by rw [← hkv]; exact k2.kinds)
      have HSZ := Lib.hid (show (S.kinds.length + 1) * 8 ≤ 140737488355328 by have := L.out.len; have := HC.out.2.2; omega)
      clear hb5 hk5 hI5 m5 kp5 hb6 kf5 k1 k2 hkv kf1 kf2 pc x12 QC QT M4 HKP HW4
      unfold fault0
      subst hW5
      go_wp2_with (at_builtin; go_loud (refine wpList_app_one' isInt rfl (.tmp 45) (.tmp 48) rfl w.heap.size _ _ _ rfl (w5.alloc (.cells #[.int .i64 0, .int .i64 0, .slice none 0 0] 43)) [.int .i64 (P.kind : Int)] rfl HROW.out (by show Value.slice (some ⟨w5.heap.size + 1, 0, none⟩) 1 1 = _; simp) rfl (by intro u hu; rw [List.mem_singleton.1 hu]; rfl) HSZ.out M5.out.below.size ?_))
      intro v6 w6 hown6 hg6
      obtain ⟨kA6, kc6, rfl, g1, g2⟩ := own_form hown6
      have hk6 := blk_row HK1.out HROW.out (by decide) hg6
      have x6 : w6.cell? ⟨gx, 12, none⟩ = some kv' := hk6.cell 12
      have y6 : w6.frozen? ⟨gx, 12, none⟩ = false := hk6.free 12
      have m6 := M5.out.row HROW.out hg6
      have M7 := Lib.hid (m6.setx 12 (.slice kA6 (S.kinds.length + 1) kc6))
      have r6 := RowsR.kind (S := { T with kinds := S.kinds }) (k := P.kind) HK2.out hown6 (by rw [HKV.out]; exact hg6)
      have hset : w6.grownBy (w6.setCell ⟨gx, 12, none⟩ (.slice kA6 (S.kinds.length + 1) kc6)) (some gx) := grown_setCell (grown_refl _ _) _ _
      have r7 := rows_keep r6 hk6 hset
      rw [kinds_eta HSTEP.out.2.2.2.2.2] at r7
      have hb7 : Blk (w6.setCell ⟨gx, 12, none⟩ (.slice kA6 (S.kinds.length + 1) kc6)) gx 99 (rdRow true T pv' cv' rv' (.slice kA6 (S.kinds.length + 1) kc6) wv' av') := hk6.set 12 _
      have HLP := Lib.hid (show LoopA w gx gr ok true l Sf T P.rest (w6.setCell ⟨gx, 12, none⟩ (.slice kA6 (S.kinds.length + 1) kc6)) from
        ⟨M7.out.below, M7.out.res, M7.out.flt, M7.out.gxl, M7.out.grl, M7.out.rd, ⟨_, _, _, _, _, _, hb7, r7⟩, HSTEP.out.2.2.1, by
          have h1 := L.out.len; have h2 := HSTEP.out.2.2.2.1; rw [HSTEP.out.2.2.2.2.2, List.length_append]; simp only [List.length_cons, List.length_nil]; omega, step_c8 HSTEP.out.2.1 L.out.c8⟩)
      have HMS := Lib.hid (show leftAt (w6.setCell ⟨gx, 12, none⟩ (.slice kA6 (S.kinds.length + 1) kc6)) gr < leftAt wr gr by rw [rd_left HLP.out.rd, HLA.out]; have h2 := HSTEP.out.2.2.2.1; omega)
      clear hown6 hg6 g1 g2 hk6 m6 r6 r7 hset hb7 f50 p51 x52
      go_wp2_with fail
      go_roundw
      case rel => exact ⟨T, P.rest, HLP.out⟩
      case measure => exact HMS.out
end Go.Proofs.YtnaangnmlbgmkaaGreatDoor

/-
  Rows of segments, of raw attributes, whose elements' own rows are old ones or new ones.
-/
namespace Go.Proofs.YtnaangnmlbgmkaaGreatDoor
set_option linter.unusedVariables false
set_option linter.unusedSimpArgs false
open Go.RowKit

/-- A cell of a row of one's own is written. -/
theorem own_setCell {w : World} {B T size n c g i : Nat} {xs : List Value} (u : Value) (h : w.ownsRow B T size (.slice (some ⟨g, 0, none⟩) n c) n xs) (hi : i < n * size) :
    (w.setCell ⟨g, i, none⟩ u).ownsRow B T size (.slice (some ⟨g, 0, none⟩) n c) n (xs.set i u) := by
  refine ⟨by rw [List.length_set]; exact h.1, ?_⟩
  rcases h.2 with ⟨hv, _⟩ | ⟨g', cap, cur, hv, hB, hg, h1, h2, h3, h4⟩
  · cases hv
  · injection hv with ha _ hc
    injection ha with ha
    injection ha with ha _ _
    subst ha
    subst hc
    have hk : Blk w g T cur.toList := by unfold Blk; simpa using hg
    have hk2 := hk.set i u
    refine .inr ⟨g, c, (cur.toList.set i u).toArray, rfl, hB, hk2, h1, h2, by simpa using h3, ?_⟩
    show (cur.toList.set i u).take (n * size) = xs.set i u
    rw [List.take_set, h4]
theorem row_lower {w : World} {B B' T size n : Nat} {v : Value} {xs : List Value} (h : w.ownsRow B T size v n xs) (hB : B' ≤ B) : w.ownsRow B' T size v n xs :=
  ⟨h.1, h.2.imp id fun ⟨g, cap, cur, q1, q2, q3⟩ => ⟨g, cap, cur, q1, Nat.le_trans hB q2, q3⟩⟩
theorem own_row_blk {w : World} {B T size n c g : Nat} {xs : List Value} (h : w.ownsRow B T size (.slice (some ⟨g, 0, none⟩) n c) n xs) : ∃ cs, Blk w g T cs ∧ B ≤ g := by
  rcases h.2 with ⟨hv, _⟩ | ⟨g', cap, cur, hv, hB, hg, h1, h2, h3, h4⟩
  · cases hv
  · injection hv with ha _ hc
    injection ha with ha
    injection ha with ha _ _
    subst ha
    exact ⟨cur.toList, by unfold Blk; simpa using hg, hB⟩
theorem own_at0 {w : World} {B T size n c : Nat} {A : Option Addr} {xs : List Value} (h : w.ownsRow B T size (.slice A n c) n xs) (hn : 0 < n) : ∃ g, A = some ⟨g, 0, none⟩ := by
  rcases h.2 with ⟨hv, h0⟩ | ⟨g', cap, cur, hv, hB, hg, h1, h2, h3, h4⟩
  · omega
  · injection hv with ha _ hc
    exact ⟨g', ha⟩
section
variable {B : Nat} {W W' : World}
/-- A segment's numbers lie below B, or are one's own from there on. -/
def SgX (W : World) (B : Nat) (s : Sg) : Prop := Sg.Ok W B s ∨ (Own32 W B s.sl s.nums ∧ s.nums.length ≤ s.cap ∧ s.cap ≤ maxLen ∧ (∀ x ∈ s.nums, x < 4294967296) ∧ (-9223372036854775808 ≤ s.kind ∧ s.kind ≤ 9223372036854775807))
theorem SgX.ok {s : Sg} (h : SgX W B s) (hB : B ≤ W.heap.size) : Sg.Ok W W.heap.size s := by
  rcases h with h | ⟨h, h1, h2, h3⟩
  · exact h.lift hB
  · exact ⟨h1, h2, h.at, h3⟩
theorem SgX.below {s : Sg} (h : SgX W B s) (hb : Below W.heap.size W W') (hB : B ≤ W.heap.size) : SgX W' B s := by
  rcases h with h | ⟨h, h1⟩
  · exact .inl (h.below hb hB)
  · exact .inr ⟨h.below hb, h1⟩
theorem SgX.keep {s : Sg} {g T : Nat} {cs : List Value} (h : SgX W B s) (hk : Blk W g T cs) (ht : (24 : TypeId) ≠ T) (hB : B ≤ g) (hs : B ≤ W.heap.size) (hg : W.grownBy W' (some g)) : SgX W' B s := by
  rcases h with h | ⟨h, h1⟩
  · exact .inl (h.below (below_of_grown hg hs hB) (Nat.le_refl _))
  · exact .inr ⟨row_keep h hk ht hg, h1⟩
/-- A row of segments of one's own. -/
structure PathK (B : Nat) (W : World) (v : Value) (M : List Sg) : Prop where
  row : W.ownsRow B 112 2 v M.length (flatS M)
  each : ∀ s ∈ M, SgX W B s
theorem PathK.below {v : Value} {M : List Sg} (h : PathK B W v M) (hb : Below W.heap.size W W') (hB : B ≤ W.heap.size) : PathK B W' v M := ⟨row_below h.row hb, fun s hs => (h.each s hs).below hb hB⟩
theorem PathK.keep {v : Value} {M : List Sg} {g T : Nat} {cs : List Value} (h : PathK B W v M) (hk : Blk W g T cs) (h1 : (112 : TypeId) ≠ T) (h2 : (24 : TypeId) ≠ T) (hB : B ≤ g) (hs : B ≤ W.heap.size) (hg : W.grownBy W' (some g)) : PathK B W' v M :=
  ⟨row_keep h.row hk h1 hg, fun s hm => (h.each s hm).keep hk h2 hB hs hg⟩
theorem PathK.segs {A : Option Addr} {n c : Nat} {M : List Sg} (h : PathK B W (.slice A n c) M) (hB : B ≤ W.heap.size) : Segs W W.heap.size A M := by
  intro hne
  have hp := List.length_pos_iff.2 hne
  rcases h.row.2 with ⟨hv, hn⟩ | ⟨g, cap, cur, hv, _, hg, _⟩
  · omega
  · have hA : A = some ⟨g, 0, none⟩ := by injection hv
    subst hA
    have hc := World.ownsRow.cells h.row (g := g) rfl
    refine ⟨g, 0, rfl, (Array.getElem?_eq_some_iff.1 hg).1, fun j s hj => ?_⟩
    obtain ⟨q1, q2⟩ := flat_at M j s hj
    have k1 := hc _ _ q1
    have k2 := hc _ _ q2
    rw [Addr.add_lit] at k1 k2
    exact ⟨k1, k2, (h.each s (List.mem_of_getElem? hj)).ok hB⟩
/-- A raw attribute's bytes lie below B, or are one's own from there on. -/
def RwX (W : World) (B : Nat) (s : Rw) : Prop := (At W B s.adr s.data ∨ Own W B 5 (.slice s.adr s.data.length s.cap) s.data) ∧ s.data.length ≤ s.cap ∧ s.cap ≤ maxLen
theorem RwX.at {s : Rw} (h : RwX W B s) (hB : B ≤ W.heap.size) : At W W.heap.size s.adr s.data := by
  rcases h.1 with h | h
  · exact h.lift hB
  · exact h.bytes
theorem RwX.below {s : Rw} (h : RwX W B s) (hb : Below W.heap.size W W') (hB : B ≤ W.heap.size) : RwX W' B s := by
  refine ⟨?_, h.2⟩
  rcases h.1 with h | h
  · exact .inl (h.below hb hB)
  · exact .inr (row_below h hb)
theorem RwX.keep {s : Rw} {g T : Nat} {cs : List Value} (h : RwX W B s) (hk : Blk W g T cs) (ht : (5 : TypeId) ≠ T) (hB : B ≤ g) (hs : B ≤ W.heap.size) (hg : W.grownBy W' (some g)) : RwX W' B s := by
  refine ⟨?_, h.2⟩
  rcases h.1 with h | h
  · exact .inl (h.below (below_of_grown hg hs hB) (Nat.le_refl _))
  · exact .inr (row_keep h hk ht hg)
structure RawK (B : Nat) (W : World) (v : Value) (L : List Rw) : Prop where
  row : W.ownsRow B 77 3 v L.length (flatR L)
  each : ∀ s ∈ L, RwX W B s
theorem RawK.below {v : Value} {L : List Rw} (h : RawK B W v L) (hb : Below W.heap.size W W') (hB : B ≤ W.heap.size) : RawK B W' v L := ⟨row_below h.row hb, fun s hs => (h.each s hs).below hb hB⟩
theorem RawK.keep {v : Value} {L : List Rw} {g T : Nat} {cs : List Value} (h : RawK B W v L) (hk : Blk W g T cs) (h1 : (77 : TypeId) ≠ T) (h2 : (5 : TypeId) ≠ T) (hB : B ≤ g) (hs : B ≤ W.heap.size) (hg : W.grownBy W' (some g)) : RawK B W' v L :=
  ⟨row_keep h.row hk h1 hg, fun s hm => (h.each s hm).keep hk h2 hB hs hg⟩
theorem RawK.raws {A : Option Addr} {n c : Nat} {L : List Rw} (h : RawK B W (.slice A n c) L) (hB : B ≤ W.heap.size) : RwIn W W.heap.size A L := by
  intro hne
  have hp := List.length_pos_iff.2 hne
  rcases h.row.2 with ⟨hv, hn⟩ | ⟨g, cap, cur, hv, _, hg, _⟩
  · omega
  · have hA : A = some ⟨g, 0, none⟩ := by injection hv
    subst hA
    have hc := World.ownsRow.cells h.row (g := g) rfl
    refine ⟨g, 0, rfl, (Array.getElem?_eq_some_iff.1 hg).1, fun j s hj => ?_⟩
    obtain ⟨q1, q2, q3⟩ := flatR_at L j s hj
    have k1 := hc _ _ q1
    have k2 := hc _ _ q2
    have k3 := hc _ _ q3
    rw [Addr.add_lit] at k1 k2 k3
    exact ⟨k1, k2, k3, (h.each s (List.mem_of_getElem? hj)).at hB⟩
end
/-- The slice of one segment is another one. -/
theorem flatS_set : ∀ (M : List Sg) (j : Nat) (s : Sg) (A : Option Addr) (c : Nat), M[j]? = some s → (flatS M).set (j * 2 + 1) (.slice A s.nums.length c) = flatS (M.set j ⟨s.kind, A, c, s.nums⟩)
  | [], j, s, A, c, h => by simp at h
  | x :: M, 0, s, A, c, h => by
    obtain rfl : x = s := by simpa using h
    simp [flatS, Sg.two, Sg.sl]
  | x :: M, j + 1, s, A, c, h => by
    have h2 := flatS_set M j s A c (by simpa using h)
    have e : flatS (x :: M) = .int .i64 x.kind :: x.sl :: flatS M := by simp [flatS, Sg.two]
    have e1 : (j + 1) * 2 + 1 = j * 2 + 1 + 1 + 1 := by omega
    rw [e, e1, List.set_cons_succ, List.set_cons_succ, h2, List.set_cons_succ]
    simp [flatS, Sg.two]
theorem flatR_set : ∀ (L : List Rw) (j : Nat) (s : Rw) (A : Option Addr) (c : Nat), L[j]? = some s → (flatR L).set (j * 3 + 2) (.slice A s.data.length c) = flatR (L.set j ⟨s.flags, s.ty, A, c, s.data⟩)
  | [], j, s, A, c, h => by simp at h
  | x :: L, 0, s, A, c, h => by
    obtain rfl : x = s := by simpa using h
    simp [flatR]
  | x :: L, j + 1, s, A, c, h => by
    have h2 := flatR_set L j s A c (by simpa using h)
    have e : flatR (x :: L) = .int .i64 x.flags :: .int .i64 x.ty :: .slice x.adr x.data.length x.cap :: flatR L := by simp [flatR]
    have e1 : (j + 1) * 3 + 2 = j * 3 + 2 + 1 + 1 + 1 := by omega
    rw [e, e1, List.set_cons_succ, List.set_cons_succ, List.set_cons_succ, h2, List.set_cons_succ]
    simp [flatR]
theorem map_set_same {α β : Type} (f : α → β) : ∀ (M : List α) (j : Nat) (s t : α), M[j]? = some s → f t = f s → (M.set j t).map f = M.map f
  | [], j, s, t, h, _ => by simp at h
  | x :: M, 0, s, t, h, e => by
    obtain rfl : x = s := by simpa using h
    simp [e]
  | x :: M, j + 1, s, t, h, e => by
    simp only [List.set_cons_succ, List.map_cons]
    rw [map_set_same f M j s t (by simpa using h) e]
section
variable {B : Nat} {W W' : World}
theorem SgX.fit {s : Sg} (h : SgX W B s) : s.nums.length ≤ s.cap ∧ s.cap ≤ maxLen ∧ (∀ x ∈ s.nums, x < 4294967296) ∧ (-9223372036854775808 ≤ s.kind ∧ s.kind ≤ 9223372036854775807) := by
  rcases h with h | h
  · exact ⟨h.1, h.2.1, h.2.2.2⟩
  · exact h.2
/-- A row of segments of one's own, each with numbers of one's own. -/
structure PathD (B : Nat) (W : World) (v : Value) (M : List Sg) : Prop where
  row : W.ownsRow B 112 2 v M.length (flatS M)
  each : ∀ s ∈ M, Own32 W B s.sl s.nums ∧ s.nums.length ≤ s.cap ∧ s.cap ≤ maxLen ∧ (∀ x ∈ s.nums, x < 4294967296) ∧ (-9223372036854775808 ≤ s.kind ∧ s.kind ≤ 9223372036854775807)
theorem PathD.below {v : Value} {M : List Sg} (h : PathD B W v M) (hb : Below W.heap.size W W') (hB : B ≤ W.heap.size) : PathD B W' v M := ⟨row_below h.row hb, fun s hs => ⟨(h.each s hs).1.below hb, (h.each s hs).2⟩⟩
theorem PathD.later {v : Value} {M : List Sg} (h : PathD B W v M) (hb : Below W.heap.size W W') : PathD B W' v M := ⟨row_below h.row hb, fun s hs => ⟨(h.each s hs).1.below hb, (h.each s hs).2⟩⟩
theorem PathD.keeps {v : Value} {M : List Sg} {g T : Nat} {cs : List Value} (h : PathD B W v M) (hk : Blk W g T cs) (h1 : (112 : TypeId) ≠ T) (h2 : (24 : TypeId) ≠ T) (hg : W.grownBy W' (some g)) : PathD B W' v M :=
  ⟨row_keep h.row hk h1 hg, fun s hm => ⟨row_keep (h.each s hm).1 hk h2 hg, (h.each s hm).2⟩⟩
theorem PathD.keep {v : Value} {M : List Sg} {g T : Nat} {cs : List Value} (h : PathD B W v M) (hk : Blk W g T cs) (h1 : (112 : TypeId) ≠ T) (h2 : (24 : TypeId) ≠ T) (hB : B ≤ g) (hs : B ≤ W.heap.size) (hg : W.grownBy W' (some g)) : PathD B W' v M := h.keeps hk h1 h2 hg
theorem PathD.segs {A : Option Addr} {n c : Nat} {M : List Sg} (h : PathD B W (.slice A n c) M) : Segs W W.heap.size A M := by
  intro hne
  have hp := List.length_pos_iff.2 hne
  rcases h.row.2 with ⟨hv, hn⟩ | ⟨g, cap, cur, hv, _, hg, _⟩
  · omega
  · have hA : A = some ⟨g, 0, none⟩ := by injection hv
    subst hA
    have hc := World.ownsRow.cells h.row (g := g) rfl
    refine ⟨g, 0, rfl, (Array.getElem?_eq_some_iff.1 hg).1, fun j s hj => ?_⟩
    obtain ⟨q1, q2⟩ := flat_at M j s hj
    have k1 := hc _ _ q1
    have k2 := hc _ _ q2
    rw [Addr.add_lit] at k1 k2
    obtain ⟨e1, e2, e3, e4⟩ := h.each s (List.mem_of_getElem? hj)
    exact ⟨k1, k2, e2, e3, e1.at, e4⟩
/-- A row of raw attributes of one's own, each with bytes of one's own. -/
structure RawD (B : Nat) (W : World) (v : Value) (L : List Rw) : Prop where
  row : W.ownsRow B 77 3 v L.length (flatR L)
  each : ∀ s ∈ L, Own W B 5 (.slice s.adr s.data.length s.cap) s.data ∧ s.data.length ≤ s.cap ∧ s.cap ≤ maxLen
theorem RawD.later {v : Value} {L : List Rw} (h : RawD B W v L) (hb : Below W.heap.size W W') : RawD B W' v L := ⟨row_below h.row hb, fun s hs => ⟨row_below (h.each s hs).1 hb, (h.each s hs).2⟩⟩
theorem RawD.keeps {v : Value} {L : List Rw} {g T : Nat} {cs : List Value} (h : RawD B W v L) (hk : Blk W g T cs) (h1 : (77 : TypeId) ≠ T) (h2 : (5 : TypeId) ≠ T) (hg : W.grownBy W' (some g)) : RawD B W' v L :=
  ⟨row_keep h.row hk h1 hg, fun s hm => ⟨row_keep (h.each s hm).1 hk h2 hg, (h.each s hm).2⟩⟩
theorem RawD.raws {A : Option Addr} {n c : Nat} {L : List Rw} (h : RawD B W (.slice A n c) L) : RwIn W W.heap.size A L := by
  intro hne
  have hp := List.length_pos_iff.2 hne
  rcases h.row.2 with ⟨hv, hn⟩ | ⟨g, cap, cur, hv, _, hg, _⟩
  · omega
  · have hA : A = some ⟨g, 0, none⟩ := by injection hv
    subst hA
    have hc := World.ownsRow.cells h.row (g := g) rfl
    refine ⟨g, 0, rfl, (Array.getElem?_eq_some_iff.1 hg).1, fun j s hj => ?_⟩
    obtain ⟨q1, q2, q3⟩ := flatR_at L j s hj
    have k1 := hc _ _ q1
    have k2 := hc _ _ q2
    have k3 := hc _ _ q3
    rw [Addr.add_lit] at k1 k2 k3
    exact ⟨k1, k2, k3, (h.each s (List.mem_of_getElem? hj)).1.bytes⟩
/-- Attributes whose rows are all of one's own. -/
structure OwnAv (W : World) (x : Av) : Prop where
  path : ∃ B, PathD B W (.slice x.pathA x.path.length x.pathC) x.path
  pathC : x.path.length ≤ x.pathC ∧ x.pathC ≤ maxLen
  comms : ∃ B, Own32 W B (.slice x.commsA x.comms.length x.commsC) x.comms
  commsC : x.comms.length ≤ x.commsC ∧ x.commsC ≤ maxLen
  raws : ∃ B, RawD B W (.slice x.rawsA x.raws.length x.rawsC) x.raws
  rawsC : x.raws.length ≤ x.rawsC ∧ x.rawsC ≤ maxLen
theorem OwnAv.inn {x : Av} (h : OwnAv W x) : x.In W W.heap.size := by
  obtain ⟨⟨_, h1⟩, h2, ⟨_, h3⟩, h4, ⟨_, h5⟩, h6⟩ := h
  exact ⟨h1.segs, h2, Own32.at h3, h4, h5.raws, h6, fun s hs => (h5.each s hs).2⟩
theorem OwnAv.later {x : Av} (h : OwnAv W x) (hb : Below W.heap.size W W') : OwnAv W' x := by
  obtain ⟨⟨b1, h1⟩, h2, ⟨b3, h3⟩, h4, ⟨b5, h5⟩, h6⟩ := h
  exact ⟨⟨b1, h1.later hb⟩, h2, ⟨b3, h3.below hb⟩, h4, ⟨b5, h5.later hb⟩, h6⟩
theorem OwnAv.keeps {x : Av} {g T : Nat} {cs : List Value} (h : OwnAv W x) (hk : Blk W g T cs) (t1 : (112 : TypeId) ≠ T) (t2 : (24 : TypeId) ≠ T) (t3 : (77 : TypeId) ≠ T) (t4 : (5 : TypeId) ≠ T) (hg : W.grownBy W' (some g)) : OwnAv W' x := by
  obtain ⟨⟨b1, h1⟩, h2, ⟨b3, h3⟩, h4, ⟨b5, h5⟩, h6⟩ := h
  exact ⟨⟨b1, h1.keeps hk t1 t2 hg⟩, h2, ⟨b3, row_keep h3 hk t2 hg⟩, h4, ⟨b5, h5.keeps hk t3 t4 hg⟩, h6⟩
end
theorem rowA_one (u : Av) : ∀ v ∈ u.row, v.oneCell' = true := by
  intro v hv
  simp only [Av.row, List.mem_cons, List.not_mem_nil, or_false] at hv
  rcases hv with rfl | rfl | rfl | rfl | rfl | rfl | rfl | rfl | rfl | rfl | rfl <;> rfl
theorem run_storeA5 {w : World} {g T : Nat} {cs : List Value} {u : Av} (h : Blk w g T cs) (hl : cs.length = 11) :
    ∃ w', (Instr.storeAt 28 (.pointer (some ⟨g, 0, none⟩)) u.agg).run Tryz.prog w = .ok () w' ∧ Blk w' g T u.row ∧ w.grownBy w' (some g) := by
  have hr : u.row.length = 11 := rfl
  have hs := run_storeCells_cells (P := Tryz.prog) g 0 u.row 0 w (fun j hj => by rw [h.cell, List.getElem?_eq_getElem (by omega)]; rfl) (fun j hj => h.free _) (rowA_one u)
  refine ⟨w.setCells g 0 u.row, ?_, blk_fill5 u.row cs [] w h (by omega), grown_setCells5 _ _ _ _ (grown_refl _ _)⟩
  have e : (Value.cells u.agg).toList = u.row := rfl
  have e2 : (Value.cells u.agg).size = 11 := rfl
  have e3 : (sizeOf 28).run Tryz.prog w = .ok 11 w := by kernel_rfl
  simp [Instr.storeAt, Instr.sureAddr, storeVar, Sem.run_bind, e3, e, e2, hs, Result.andThen]
section
variable {ops : Array Oper} {rest : List Oper} {o : Oper} {a : Act} {Q : Exit → Act → World → Prop}
theorem wpList_storeA5 (w : World) (hg : o.guard = none) (hd : o.dst = none) (p x : Operand) (hop : o.op = Op.store 28 p x) (g T : Nat) (cs : List Value) (u : Av) (hp : a.eval p = .pointer (some ⟨g, 0, none⟩)) (hx : a.eval x = u.agg) (h : Blk w g T cs) (hl : cs.length = 11)
    (hK : ∀ w', Blk w' g T u.row → w.grownBy w' (some g) → wpList Tryz.prog ops Q rest a w') : wpList Tryz.prog ops Q (o :: rest) a w := by
  refine wpList_plain hg fun K' hK' => ?_
  obtain ⟨w', hrun, r1, r2⟩ := run_storeA5 (u := u) h hl
  unfold Oper.wp
  simp [execOp, hop, hp, hx, hrun, Result.andThen, hd]
  have e : a.put none undef = a := rfl
  exact hK' _ _ (by rw [hd]; exact hK w' r1 r2)
end
end Go.Proofs.YtnaangnmlbgmkaaGreatDoor

/-
  An update that is built of what goes, what is said and what comes.
-/
namespace Go.Proofs.YtnaangnmlbgmkaaGreatDoor
set_option linter.unusedVariables false
set_option linter.unusedSimpArgs false
open Go.RowKit

theorem run_buildU (w : World) (A B : Option Addr) (n m c d : Nat) (x : Av) : (Instr.build 30 #[(0, .slice A n c), (1, x.agg), (2, .slice B m d)]).run Tryz.prog w = .ok (.agg (.slice A n c :: (x.row ++ [.slice B m d])).toArray) w := by kernel_rfl
section
variable {ops : Array Oper} {rest : List Oper} {o : Oper} {a : Act} {Q : Exit → Act → World → Prop}
theorem wpList_buildU (w : World) (hg : o.guard = none) (p q r : Operand) (hop : o.op = Op.build 30 #[(0, p), (1, q), (2, r)]) (u : Uv) (hp : a.eval p = .slice u.goneA u.gone.length u.goneC) (hq : a.eval q = u.attrs.agg) (hr : a.eval r = .slice u.newsA u.news.length u.newsC)
    (hK : wpList Tryz.prog ops Q rest (a.put o.dst u.agg) w) : wpList Tryz.prog ops Q (o :: rest) a w := by
  refine wpList_plain hg fun K' hK' => ?_
  unfold Oper.wp
  simp [execOp, hop, hp, hq, hr, run_buildU, Result.andThen]
  exact hK' _ _ hK
end
end Go.Proofs.YtnaangnmlbgmkaaGreatDoor

/-
  P4.2: any attributes' bytes, in wide and narrow numbers, or that they have none: the walk.
-/
namespace Go.Proofs.YtnaangnmlbgmkaaGreatDoor
set_option linter.unusedVariables false
set_option linter.unusedSimpArgs false
open Go.RowKit

theorem okB_facts {a : Av} (h : a.okB = true) : 0 ≤ a.org ∧ a.org ≤ 2 ∧ a.path.length ≤ 8 ∧ totN a.path ≤ 64 ∧ (-1 ≤ a.med ∧ a.med ≤ 4294967295) ∧ (-1 ≤ a.pref ∧ a.pref ≤ 4294967295) ∧ a.comms.length ≤ 32 ∧ rawsF (-1) (a.raws.map Rw.abs) = true ∧ a.raws.length ≤ 8 := by
  unfold Av.okB rightB saidB at h
  simp only [Bool.and_eq_true, decide_eq_true_eq] at h
  obtain ⟨⟨⟨⟨⟨⟨⟨h1, h2⟩, h3, _, h4⟩, h5, h6⟩, h7, h8⟩, _⟩, h9⟩, h10, h11⟩ := h
  exact ⟨h1, h2, h3, h4, ⟨h5, h6⟩, ⟨h7, h8⟩, h9, h10, h11⟩
theorem raws_facts : ∀ (L : List Rw) (b : Int), -1 ≤ b → rawsF b (L.map Rw.abs) = true → ∀ s ∈ L, ∃ f t : Nat, s.flags = (f : Int) ∧ s.ty = (t : Int) ∧ f = 224 ∧ t < 256 ∧ s.data.length ≤ 64
  | [], _, _, _, s, hs => by cases hs
  | x :: L, b, hb, h, s, hs => by
    simp only [List.map_cons, rawsF, rawOk, Rw.abs, Bool.and_eq_true, decide_eq_true_eq] at h
    obtain ⟨⟨⟨⟨⟨h1, h2⟩, _⟩, h3⟩, h4⟩, h5⟩ := h
    rcases List.mem_cons.1 hs with rfl | hs
    · exact ⟨224, s.ty.toNat, h3, by omega, rfl, by omega, h4⟩
    · exact raws_facts L x.ty (by omega) h5 s hs
theorem u32_wrap (n : Int) : ∃ m : Nat, IntKind.u32.wrap n = (m : Int) ∧ m < 4294967296 := by
  refine ⟨(IntKind.u32.wrap n).toNat, ?_, ?_⟩
  · rw [IntKind.wrap_u32]; omega
  · rw [IntKind.wrap_u32]; omega
/-- Attributes that may be: both Puts tell the same bytes. -/
theorem puts_both (a : Av) (wide : Bool) (w : World) (ht : TabK w) (ha : AvArg w a) (hok : a.okB = true) :
    ∃ d : List UInt8, ∀ W, Below w.heap.size w W → Calls Tryz.prog 44 #[.agg a.row.toArray, .bool wide] W (RetPut W d) ∧ Calls Tryz.prog 23 #[.agg a.row.toArray, .bool wide] W (RetPut W d) := by
  obtain ⟨h1, h2, h3, h4, h5, h6, h7, h8, h9⟩ := okB_facts hok
  have hre := raws_facts a.raws (-1) (Int.le_refl _) h8
  obtain ⟨hin, hcm, _, _, hnx, haa, had, _, _, _⟩ := ha
  have hR := fun (W : World) (q : Below w.heap.size w W) => RefRight4_any a W ((hin.below q (Nat.le_refl _)).lift q.size) (by omega) (by omega) (by omega)
  rw [hok] at hR
  obtain ⟨org, pa, pc, path, next, med, pref, atomic, has, aas, aad, ca, cc, comms, ra, rc, raws⟩ := a
  dsimp only at h1 h2 h3 h4 h5 h6 h7 h8 h9 hre hcm hnx haa had
  obtain ⟨O, rfl⟩ := Int.eq_ofNat_of_zero_le h1
  obtain ⟨N, rfl⟩ := Int.eq_ofNat_of_zero_le hnx.1
  obtain ⟨SA, rfl⟩ := Int.eq_ofNat_of_zero_le haa.1
  obtain ⟨AD, rfl⟩ := Int.eq_ofNat_of_zero_le had.1
  obtain ⟨mm, hwm, hmm⟩ := u32_wrap med
  obtain ⟨mp, hwp, hmp⟩ := u32_wrap pref
  refine ⟨putA O N SA AD path med pref mm mp atomic has comms raws wide, fun W q => ⟨?_, ?_⟩⟩
  · exact PutA_ok O N SA AD pa pc path med pref atomic has ca cc comms ra rc raws mm mp wide W (ht.below q ht.lt) ((hin.below q (Nat.le_refl _)).lift q.size) hok (by omega) (by omega) (by omega) (by omega) hwm hmm hwp hmp (by omega) (by omega) (by omega) hcm (by omega) (fun s hs => by obtain ⟨_, _, _, _, _, _, h⟩ := hre s hs; exact h)
  · exact RefPut4_ok O N SA AD pa pc path med pref atomic has ca cc comms ra rc raws mm mp wide W ((hin.below q (Nat.le_refl _)).lift q.size) (fun W' q' => hR W' (q.trans (q'.mono q.size))) (by omega) (by omega) (by omega) (by omega) hwm hmm hwp hmp (by omega) (by omega) (by omega) hcm (by omega) hre
set_option maxHeartbeats 1600000 in
theorem RefPut4_no (a : Av) (wide : Bool) (w : World) (hin : a.In w w.heap.size) (hok : a.okB = false) (hpl : a.path.length ≤ 10000) (hpt : totN a.path ≤ 1152921504606846976) (hrl : a.raws.length ≤ 1000) :
    Calls Tryz.prog 23 #[.agg a.row.toArray, .bool wide] w fun e w' => e = .returned (.tuple #[.slice none 0 0, .int .i64 1]) ∧ Below w.heap.size w w' := by
  have hb0 := (Below.refl w.heap.size w).alloc (Nat.le_refl _) (.cells a.row.toArray 28)
  have q := RefRight4_any a _ ((hin.below hb0 (Nat.le_refl _)).lift hb0.size) (by omega) (by omega) (by omega)
  rw [hok] at q
  obtain ⟨org, pa, pc, path, next, med, pref, atomic, has, sa, ad, ca, cc, comms, ra, rc, raws⟩ := a
  have Q1 := Lib.hid q; have HB0 := Lib.hid hb0
  clear q hb0 hin hok
  unfold Av.row at Q1 HB0 ⊢
  dsimp only at Q1 HB0 ⊢
  go_enter Tryz.func23, Tryz.ntmps23
  go_wp2_with fail
  refine Q1.out.mono ?_
  rintro e w1 ⟨rfl, hb1⟩
  have HB1 := Lib.hid (HB0.out.trans (hb1.mono HB0.out.size))
  clear hb1
  go_wp2_with fail
  go_ret2
  exact ⟨rfl, HB1.out⟩
theorem below_two6 {w w1 w2 : World} (h : Below w.heap.size w w1) (k : Below w1.heap.size w1 w2) : Below w.heap.size w w2 := h.trans (k.mono h.size)
end Go.Proofs.YtnaangnmlbgmkaaGreatDoor

/-
  What both Puts tell of an update's attributes: bytes, or an error.
-/
namespace Go.Proofs.YtnaangnmlbgmkaaGreatDoor
set_option linter.unusedVariables false
set_option linter.unusedSimpArgs false
open Go.RowKit

theorem raws_small5 : ∀ (L : List Rw) (b : Int), rawsF b (L.map Rw.abs) = true → ∀ s ∈ L, s.data.length ≤ 64
  | [], _, _, s, hs => by cases hs
  | x :: L, b, h, s, hs => by
    simp only [List.map_cons, rawsF, rawOk, Rw.abs, Bool.and_eq_true, decide_eq_true_eq] at h
    obtain ⟨⟨_, h4⟩, h5⟩ := h
    rcases List.mem_cons.1 hs with rfl | hs
    · exact h4
    · exact raws_small5 L x.ty h5 s hs
theorem putA_small5 (org next sa ad : Nat) (path : List Sg) (med pref : Int) (mm mp : Nat) (atomic has : Bool) (comms : List Nat) (raws : List Rw) (h3 : path.length ≤ 8) (h4 : totN path ≤ 64) (h5 : comms.length ≤ 32) (h6 : raws.length ≤ 8) (h7 : ∀ s ∈ raws, s.data.length ≤ 64) (wide : Bool) :
    (putA org next sa ad path med pref mm mp atomic has comms raws wide).length ≤ 100000 := by
  have p1 := putB_len wide path
  have p2 := putB_len true path
  have q1 := numsB_len true [next]
  have q2 := numsB_len true [mm]
  have q3 := numsB_len true [mp]
  have q4 := numsB_len true comms
  have q5 := aggrB_len wide sa ad
  have q6 := aggrB_len true sa ad
  have q7 := rawsB_len raws h7
  have o1 := oneB_len true 64 1 [UInt8.ofNat org]
  have o2 := oneB_len true 64 2 (putB wide path)
  have o3 := oneB_len true 64 3 (numsB true [next])
  have o4 := oneB_len (decide (0 ≤ med)) 128 4 (numsB true [mm])
  have o5 := oneB_len (decide (0 ≤ pref)) 64 5 (numsB true [mp])
  have o6 := oneB_len atomic 64 6 []
  have o7 := oneB_len has 192 7 (aggrB wide sa ad)
  have o8 := oneB_len (decide (0 < comms.length)) 192 8 (numsB true comms)
  have o9 := oneB_len (!wide && bigs (flatN path)) 192 17 (putB true path)
  have o10 := oneB_len (!wide && bigB sa) 192 18 (aggrB true sa ad)
  unfold putA
  simp only [List.length_append, List.length_cons, List.length_nil] at *
  omega
/-- Attributes that may be: both Puts tell the same bytes, and not too many. -/
theorem puts_both5 (a : Av) (wide : Bool) (w : World) (ht : TabK w) (ha : AvArg w a) (hok : a.okB = true) :
    ∃ d : List UInt8, d.length ≤ 100000 ∧ ∀ W, Below w.heap.size w W → Calls Tryz.prog 44 #[.agg a.row.toArray, .bool wide] W (RetPut W d) ∧ Calls Tryz.prog 23 #[.agg a.row.toArray, .bool wide] W (RetPut W d) := by
  obtain ⟨h1, h2, h3, h4, h5, h6, h7, h8, h9⟩ := okB_facts hok
  have hre := raws_facts a.raws (-1) (Int.le_refl _) h8
  have hrs := raws_small5 a.raws (-1) h8
  obtain ⟨hin, hcm, _, _, hnx, haa, had, _, _, _⟩ := ha
  have hR := fun (W : World) (q : Below w.heap.size w W) => RefRight4_any a W ((hin.below q (Nat.le_refl _)).lift q.size) (by omega) (by omega) (by omega)
  rw [hok] at hR
  obtain ⟨org, pa, pc, path, next, med, pref, atomic, has, aas, aad, ca, cc, comms, ra, rc, raws⟩ := a
  dsimp only at h1 h2 h3 h4 h5 h6 h7 h8 h9 hre hcm hnx haa had hrs
  obtain ⟨O, rfl⟩ := Int.eq_ofNat_of_zero_le h1
  obtain ⟨N, rfl⟩ := Int.eq_ofNat_of_zero_le hnx.1
  obtain ⟨SA, rfl⟩ := Int.eq_ofNat_of_zero_le haa.1
  obtain ⟨AD, rfl⟩ := Int.eq_ofNat_of_zero_le had.1
  obtain ⟨mm, hwm, hmm⟩ := u32_wrap med
  obtain ⟨mp, hwp, hmp⟩ := u32_wrap pref
  refine ⟨putA O N SA AD path med pref mm mp atomic has comms raws wide, putA_small5 O N SA AD path med pref mm mp atomic has comms raws h3 h4 h7 h9 hrs wide, fun W q => ⟨?_, ?_⟩⟩
  · exact PutA_ok O N SA AD pa pc path med pref atomic has ca cc comms ra rc raws mm mp wide W (ht.below q ht.lt) ((hin.below q (Nat.le_refl _)).lift q.size) hok (by omega) (by omega) (by omega) (by omega) hwm hmm hwp hmp (by omega) (by omega) (by omega) hcm (by omega) (fun s hs => by obtain ⟨_, _, _, _, _, _, h⟩ := hre s hs; exact h)
  · exact RefPut4_ok O N SA AD pa pc path med pref atomic has ca cc comms ra rc raws mm mp wide W ((hin.below q (Nat.le_refl _)).lift q.size) (fun W' q' => hR W' (q.trans (q'.mono q.size))) (by omega) (by omega) (by omega) (by omega) hwm hmm hwp hmp (by omega) (by omega) (by omega) hcm (by omega) hre
theorem rete_of_put {w w' : World} {d : List UInt8} {e : Ending} (h : RetPut w d e w') : RetE w d 0 e w' := h
theorem rete_no {w w' : World} {e : Ending} (h : e = .returned (.tuple #[.slice none 0 0, .int .i64 1]) ∧ Below w.heap.size w w') : RetE w [] 1 e w' :=
  ⟨none, 0, h.1, Nat.le_refl _, Nat.zero_le _, Own.nil _ _ _, h.2⟩
/-- Attributes that came in, few enough: both Puts tell the same, bytes or an error. -/
theorem puts5 (a : Av) (wide : Bool) (w : World) (ht : TabK w) (ha : AvArg w a) (hpl : a.path.length ≤ 10000) (hpt : totN a.path ≤ 1152921504606846976) (hrl : a.raws.length ≤ 1000) :
    ∃ (d : List UInt8) (E : Int), (E = 0 ∨ E = 1) ∧ d.length ≤ 100000 ∧ ∀ W, Below w.heap.size w W → Calls Tryz.prog 44 #[.agg a.row.toArray, .bool wide] W (RetE W d E) ∧ Calls Tryz.prog 23 #[.agg a.row.toArray, .bool wide] W (RetE W d E) := by
  cases hok : a.okB with
  | true =>
    obtain ⟨d, hl, hd⟩ := puts_both5 a wide w ht ha hok
    exact ⟨d, 0, .inl rfl, hl, fun W q => ⟨(hd W q).1.mono fun e w' h => rete_of_put h, (hd W q).2.mono fun e w' h => rete_of_put h⟩⟩
  | false =>
    refine ⟨[], 1, .inr rfl, by simp, fun W q => ⟨?_, ?_⟩⟩
    · exact (PutA_no a wide W (ht.below q ht.lt) ((ha.inn.below q (Nat.le_refl _)).lift q.size) hok hpl hpt hrl).mono fun e w' h => rete_no h
    · exact (RefPut4_no a wide W ((ha.inn.below q (Nat.le_refl _)).lift q.size) hok hpl hpt hrl).mono fun e w' h => rete_no h
end Go.Proofs.YtnaangnmlbgmkaaGreatDoor

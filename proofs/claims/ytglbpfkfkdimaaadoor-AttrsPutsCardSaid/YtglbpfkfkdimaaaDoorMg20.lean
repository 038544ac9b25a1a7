/-
  Texts of this seat, put together: Awake4, Puts4W.
-/
import Derived.Test.YtglbpfkfkdimaaaDoorReadB4Mg
import Derived.Test.YtglbpfkfkdimaaaDoorSame4Mg
import Derived.Test.YtglbpfkfkdimaaaDoorMg4
import Derived.Test.YtglbpfkfkdimaaaDoorMg8
import Derived.Test.YtglbpfkfkdimaaaDoorRefRight4Mg
import Derived.Test.YtglbpfkfkdimaaaDoorRefPut4Mg
import Derived.Test.YtglbpfkfkdimaaaDoorMg1
/-
  The example that every statement of this layer asks for.
-/
namespace Go.Proofs.YtglbpfkfkdimaaaDoor
set_option linter.unusedVariables false
set_option linter.unusedSimpArgs false
open Go.RowKit

/-- The kinds that are laid so far. -/
def okP (k : Nat) : Bool := k == 1 || k == 2 || k == 3 || k == 4 || k == 5 || k == 6 || k == 17
theorem steps_p (B : Nat) (wide : Bool) : Steps okP B wide := by
  intro gx f k S T A A2 c n2 c2 B' v r b W hk hB hB2 hI ht ho hc hm hl hs
  have hk' : k = 1 ∨ k = 2 ∨ k = 3 ∨ k = 4 ∨ k = 5 ∨ k = 6 ∨ k = 17 := by
    unfold okP at hk
    simp only [Bool.or_eq_true, beq_iff_eq] at hk
    omega
  have hy := ho.bytes
  rcases hk' with rfl | rfl | rfl | rfl | rfl | rfl | rfl
  · exact (take1_step B gx f wide S T A A2 c n2 c2 v r b W hI ht hy hc hm hl hs).mono fun e W' h => h.all hB hB2
  · exact (take2_step B gx f wide S T A A2 c n2 c2 v r b W hI ht hy hc hm hl hs).mono fun e W' h => h.all hB hB2
  · exact (take3_step B gx f wide S T A A2 c n2 c2 v r b W hI ht hy hc hm hl hs).mono fun e W' h => h.all hB hB2
  · exact (take4_step B gx f wide S T A A2 c n2 c2 v r b W hI ht hy hc hm hl hs).mono fun e W' h => h.all hB hB2
  · exact (take5_step B gx f wide S T A A2 c n2 c2 v r b W hI ht hy hc hm hl hs).mono fun e W' h => h.all hB hB2
  · exact (take6_step B gx f wide S T A A2 c n2 c2 v r b W hI ht hy hc hm hl hs).mono fun e W' h => h.all hB hB2
  · exact (take17_step B gx f wide S T A A2 c n2 c2 v r b W hI ht hy hc hm hl hs).mono fun e W' h => h.all hB hB2
/-- The example's bytes. -/
def exB : List UInt8 := putA 0 167772161 0 0 [] (-1) (-1) 4294967295 4294967295 false false [] [] true
def exS : Rs := ⟨0, [], 167772161, -1, -1, false, false, 0, 0, [], [], [1, 2, 3], [], []⟩
theorem exB_is : exB = wholeL 64 1 [0] ++ (wholeL 64 2 [] ++ (wholeL 64 3 [10, 0, 0, 1] ++ [])) := by decide +kernel
theorem exRun : RunK okP true exB rs0 exS := by
  rw [exB_is]
  obtain ⟨f1, h1, e1⟩ := nextA_whole (f := 64) (k := 1) (v := [0]) (r := wholeL 64 2 [] ++ (wholeL 64 3 [10, 0, 0, 1] ++ [])) (.inl rfl) (by decide) (by decide)
  obtain ⟨f2, h2, e2⟩ := nextA_whole (f := 64) (k := 2) (v := []) (r := wholeL 64 3 [10, 0, 0, 1] ++ []) (.inl rfl) (by decide) (by decide)
  obtain ⟨f3, h3, e3⟩ := nextA_whole (f := 64) (k := 3) (v := [10, 0, 0, 1]) (r := []) (.inl rfl) (by decide) (by decide)
  refine RunK.more (T := ⟨0, [], 0, -1, -1, false, false, 0, 0, [], [], [1], [], []⟩) (by decide) (by rw [e1]) (by rw [e1]; rfl) (by rw [e1]; exact st1 (by simp [rs0]) ⟨h1, rfl, by decide⟩) ?_
  rw [e1]
  refine RunK.more (T := ⟨0, [], 0, -1, -1, false, false, 0, 0, [], [], [1, 2], [], []⟩) (by show wholeL 64 2 [] ++ (wholeL 64 3 [10, 0, 0, 1] ++ []) ≠ []; decide) (by rw [e2]) (by rw [e2]; rfl) (by rw [e2]; exact st2 (by simp) h2 (by decide +kernel)) ?_
  rw [e2]
  refine RunK.more (T := exS) (by show wholeL 64 3 [10, 0, 0, 1] ++ [] ≠ []; decide) (by rw [e3]) (by rw [e3]; rfl) (by rw [e3]; exact st3 (by simp) ⟨h3, rfl, by decide⟩) ?_
  rw [e3]
  exact RunK.nil _ _ _
theorem exLen : exB.length = 14 := by decide +kernel
/-- The example's attributes. -/
def exA : Av := ⟨((0 : Nat) : Int), none, 0, [], ((167772161 : Nat) : Int), -1, -1, false, false, ((0 : Nat) : Int), ((0 : Nat) : Int), none, 0, [], none, 0, []⟩
theorem exA_in (w : World) : exA.In w w.heap.size := ⟨Segs.nil _ _ _, ⟨Nat.le_refl _, Nat.zero_le _⟩, At32.nil _ _ _, ⟨Nat.le_refl _, Nat.zero_le _⟩, RwIn.nil _ _ _, ⟨Nat.le_refl _, Nat.zero_le _⟩, fun s hs => by cases hs⟩
theorem exPut (w : World) (ht : TabK w) : Calls Tryd.prog 20 #[.agg #[.int .i64 0, .slice none 0 0, .int .u32 167772161, .int .i64 (-1), .int .i64 (-1), .bool false, .bool false, .int .u32 0, .int .u32 0, .slice none 0 0, .slice none 0 0], .bool true] w (RetPut w exB) :=
  PutA_ok 0 167772161 0 0 none 0 [] (-1) (-1) false false none 0 [] none 0 [] 4294967295 4294967295 true w ht (exA_in w) (by decide +kernel) (by decide) (by decide) (by decide) (by decide) (by decide) (by decide) (by decide) (by decide) (by decide) (by decide) (by decide) (fun n hn => by cases hn) (by decide) (fun s hs => by cases hs)
theorem exSame {x : Av} (h1 : x.org = ((0 : Nat) : Int)) (h2 : x.path.map Sg.abs = []) (h3 : x.next = ((167772161 : Nat) : Int)) (h4 : x.med = -1) (h5 : x.pref = -1) (h6 : x.atomic = false) (h7 : x.has = false) (h8 : x.aas = ((0 : Nat) : Int)) (h9 : x.aad = ((0 : Nat) : Int)) (h10 : x.comms = []) (h11 : x.raws.map Rw.abs = []) : x.same exA = true := by
  have e1 : x.path = [] := by simpa using h2
  have e2 : x.raws = [] := by simpa using h11
  unfold Av.same exA
  rw [h1, h3, h4, h5, h6, h7, h8, h9, h10, e1, e2]
  decide
set_option maxRecDepth 100000 in
set_option maxHeartbeats 12800000 in
theorem awake4_any (w : World) (ht : TabK w) : Calls Tryd.prog 9 #[] w fun e w' => e = .returned (.bool true) ∧ Below w.heap.size w w' := by
  have QZ := Lib.hid (Zero_any w)
  unfold zeroRow at QZ
  have HT := Lib.hid (fun (W : World) (hb : Below w.heap.size w W) => ht.below hb ht.lt)
  clear ht
  go_enter Tryd.func9, Tryd.ntmps9
  go_wp2_with fail
  refine QZ.out.mono ?_
  rintro e w1 ⟨rfl, hb1⟩
  obtain ⟨W2, hW2⟩ : ∃ W2, W2 = w1.alloc (.cells #[.int .i64 0, .slice none 0 0, .int .u32 167772161, .int .i64 (-1), .int .i64 (-1), .bool false, .bool false, .int .u32 0, .int .u32 0, .slice none 0 0, .slice none 0 0] 27) := ⟨_, rfl⟩
  have hb2 : Below w.heap.size w W2 := by rw [hW2]; exact hb1.alloc hb1.size _
  have K2 : Blk W2 w1.heap.size 27 [.int .i64 0, .slice none 0 0, .int .u32 167772161, .int .i64 (-1), .int .i64 (-1), .bool false, .bool false, .int .u32 0, .int .u32 0, .slice none 0 0, .slice none 0 0] := by rw [hW2]; exact Blk.new w1 _ _
  have QP := Lib.hid (exPut W2 (HT.out W2 hb2))
  have HW2 := Lib.hid hW2; have HB2 := Lib.hid hb2; have HK2 := Lib.hid K2
  clear hb1 hW2 hb2 K2 QZ
  go_wp2_with fail
  rw [← HW2.out]
  refine QP.out.mono ?_
  rintro e w3 ⟨A3, c3, rfl, f1, f2, ho, hb3⟩
  have hb03 := HB2.out.trans (hb3.mono HB2.out.size)
  have q := ReadA_wide okP A3 c3 exB w3 (HT.out w3 hb03) ho.bytes f1 f2 (by rw [exLen]; decide) exS exRun (steps_p _ _)
  have e14 := exLen
  rw [exLen] at q
  have QR := Lib.hid q
  have HB3 := Lib.hid hb03
  have K3 := Lib.hid (HK2.out.below hb3 HK2.out.lt)
  clear f1 f2 ho hb3 hb03 QP HK2 HB2 q HW2
  go_wp2_with fail
  refine QR.out.mono ?_
  rintro e w4 ⟨x, kA, kc, rfl, hin, hb4, h1, h2, h3, h4, h5, h6, h7, h8, h9, h10, h11⟩
  have hsm := exSame h1 h2 h3 h4 h5 h6 h7 h8 h9 h10 h11
  clear h1 h2 h3 h4 h5 h6 h7 h8 h9 h10 h11 QR e14
  have hpl : x.path.length ≤ 1000000000 := by
    unfold Av.same exA at hsm
    simp only [Bool.and_eq_true] at hsm
    have := of_decide_eq_true hsm.1.1.2
    simp at this
    rw [this]; simp
  have hrl : x.raws.length ≤ 1000000000 := by
    unfold Av.same exA at hsm
    simp only [Bool.and_eq_true] at hsm
    have := of_decide_eq_true hsm.2
    simp at this
    rw [this]; simp
  obtain ⟨W5, hW5⟩ : ∃ W5, W5 = (w4.alloc (.cells x.row.toArray 27)).alloc (.cells #[.int .i64 0, .int .i64 0, .slice none 0 0] 46) := ⟨_, rfl⟩
  have hb5 : Below w4.heap.size w4 W5 := by rw [hW5]; exact ((Below.refl _ _).alloc (Nat.le_refl _) _).alloc (by simp) _
  have kx : Blk W5 w4.heap.size 27 x.row := by
    rw [hW5]
    exact (Blk.new w4 _ _).below ((Below.refl _ _).alloc (Nat.le_refl _) _) (by simp)
  have kf : Blk W5 (w4.heap.size + 1) 46 [.int .i64 0, .int .i64 0, .slice none 0 0] := by
    have := Blk.new (w4.alloc (.cells x.row.toArray 27)) 46 [.int .i64 0, .int .i64 0, .slice none 0 0]
    rw [hW5]
    simpa using this
  have ka := (K3.out.below hb4 K3.out.lt).below hb5 (K3.out.below hb4 K3.out.lt).lt
  have hb05 := HB3.out.trans ((hb4.trans (hb5.mono hb4.size)).mono HB3.out.size)
  have qs := Same_attrs x exA W5 ((hin.below hb5 (Nat.le_refl _)).lift hb5.size) (exA_in W5) hpl hrl
  rw [hsm] at qs
  have QK := Lib.hid (fun (W : World) (hb : Below W5.heap.size W5 W) => Known_any 17 W (HT.out W (hb05.trans (hb.mono hb05.size))))
  rw [show knownB 17 = true by decide] at QK
  have HB5 := Lib.hid hb05
  obtain ⟨org, pa, pc, path, next, med, pref, atomic, has, aas, aad, ca, cc, comms, ra, rc, raws⟩ := x
  have QS := Lib.hid (show Calls Tryd.prog 19 #[.agg #[.int .i64 org, .slice pa path.length pc, .int .u32 next, .int .i64 med, .int .i64 pref, .bool atomic, .bool has, .int .u32 aas, .int .u32 aad, .slice ca comms.length cc, .slice ra raws.length rc], .agg #[.int .i64 0, .slice none 0 0, .int .u32 167772161, .int .i64 (-1), .int .i64 (-1), .bool false, .bool false, .int .u32 0, .int .u32 0, .slice none 0 0, .slice none 0 0]] W5 fun e w' => e = .returned (.bool true) ∧ Below W5.heap.size W5 w' from qs)
  have HW5' := (show W5 = (w4.alloc (.cells #[.int .i64 org, .slice pa path.length pc, .int .u32 next, .int .i64 med, .int .i64 pref, .bool atomic, .bool has, .int .u32 aas, .int .u32 aad, .slice ca comms.length cc, .slice ra raws.length rc] 27)).alloc (.cells #[.int .i64 0, .int .i64 0, .slice none 0 0] 46) from hW5)
  clear hW5
  have hW5 := HW5'
  clear HW5'
  unfold Av.row at kx
  dsimp only at kx
  have cx := cells11 kx
  have ca2 := cells11 ka
  have f0 : W5.cell? ⟨w4.heap.size + 1, 0, none⟩ = some (.int .i64 0) := kf.cell 0
  unfold Av.row fault0
  dsimp only
  have e3 : exS.kinds.length = 3 := rfl
  clear hin hb4 hb5 kx kf ka hb05 qs hsm hpl hrl K3 HB3
  subst hW5
  go_wp2_with fail
  refine QS.out.mono ?_
  rintro e w6 ⟨rfl, hb6⟩
  have HB6 := Lib.hid (HB5.out.trans (hb6.mono HB5.out.size))
  have Q17 := Lib.hid (QK.out w6 hb6)
  clear hb6 cx ca2 f0 e3 HB5 QK QS
  go_wp2_with fail
  refine Q17.out.mono ?_
  rintro e w7 ⟨rfl, hb7⟩
  have HB7 := Lib.hid (HB6.out.trans (hb7.mono HB6.out.size))
  clear hb7
  go_wp2_with fail
  go_ret
  exact ⟨rfl, HB7.out⟩
end Go.Proofs.YtglbpfkfkdimaaaDoor

/-
  P4.2: any attributes' bytes, in wide and narrow numbers, or that they have none: the walk.
-/
namespace Go.Proofs.YtglbpfkfkdimaaaDoor
set_option linter.unusedVariables false
set_option linter.unusedSimpArgs false
open Go.RowKit

theorem okB_facts {a : Av} (h : a.okB = true) : 0 ≤ a.org ∧ a.org ≤ 2 ∧ a.path.length ≤ 8 ∧ totN a.path ≤ 64 ∧ (-1 ≤ a.med ∧ a.med ≤ 4294967295) ∧ (-1 ≤ a.pref ∧ a.pref ≤ 4294967295) ∧ a.comms.length ≤ 32 ∧ rawsF (-1) (a.raws.map Rw.abs) = true ∧ a.raws.length ≤ 8 := by
  unfold Av.okB rightB saidB at h
  simp only [Bool.and_eq_true, decide_eq_true_eq] at h
  obtain ⟨⟨⟨⟨⟨⟨⟨h1, h2⟩, h3, _, h4⟩, h5, h6⟩, h7, h8⟩, _⟩, h9⟩, h10, h11⟩ := h
  exact ⟨h1, h2, h3, h4, ⟨h5, h6⟩, ⟨h7, h8⟩, h9, h10, h11⟩
theorem raws_facts : ∀ (L : List Rw) (b : Int), -1 ≤ b → rawsF b (L.map Rw.abs) = true → ∀ s ∈ L, ∃ f t : Nat, s.flags = (f : Int) ∧ s.ty = (t : Int) ∧ f = 224 ∧ t < 256 ∧ s.data.length ≤ 64
  | [], _, _, _, s, hs => by cases hs
  | x :: L, b, hb, h, s, hs => by
    simp only [List.map_cons, rawsF, rawOk, Rw.abs, Bool.and_eq_true, decide_eq_true_eq] at h
    obtain ⟨⟨⟨⟨⟨h1, h2⟩, _⟩, h3⟩, h4⟩, h5⟩ := h
    rcases List.mem_cons.1 hs with rfl | hs
    · exact ⟨224, s.ty.toNat, h3, by omega, rfl, by omega, h4⟩
    · exact raws_facts L x.ty (by omega) h5 s hs
theorem u32_wrap (n : Int) : ∃ m : Nat, IntKind.u32.wrap n = (m : Int) ∧ m < 4294967296 := by
  refine ⟨(IntKind.u32.wrap n).toNat, ?_, ?_⟩
  · rw [IntKind.wrap_u32]; omega
  · rw [IntKind.wrap_u32]; omega
/-- Attributes that may be: both Puts tell the same bytes. -/
theorem puts_both (a : Av) (wide : Bool) (w : World) (ht : TabK w) (ha : AvArg w a) (hok : a.okB = true) :
    ∃ d : List UInt8, ∀ W, Below w.heap.size w W → Calls Tryd.prog 20 #[.agg a.row.toArray, .bool wide] W (RetPut W d) ∧ Calls Tryd.prog 21 #[.agg a.row.toArray, .bool wide] W (RetPut W d) := by
  obtain ⟨h1, h2, h3, h4, h5, h6, h7, h8, h9⟩ := okB_facts hok
  have hre := raws_facts a.raws (-1) (Int.le_refl _) h8
  obtain ⟨hin, hcm, _, _, hnx, haa, had, _, _, _⟩ := ha
  have hR := fun (W : World) (q : Below w.heap.size w W) => RefRight4_any a W ((hin.below q (Nat.le_refl _)).lift q.size) (by omega) (by omega) (by omega)
  rw [hok] at hR
  obtain ⟨org, pa, pc, path, next, med, pref, atomic, has, aas, aad, ca, cc, comms, ra, rc, raws⟩ := a
  dsimp only at h1 h2 h3 h4 h5 h6 h7 h8 h9 hre hcm hnx haa had
  obtain ⟨O, rfl⟩ := Int.eq_ofNat_of_zero_le h1
  obtain ⟨N, rfl⟩ := Int.eq_ofNat_of_zero_le hnx.1
  obtain ⟨SA, rfl⟩ := Int.eq_ofNat_of_zero_le haa.1
  obtain ⟨AD, rfl⟩ := Int.eq_ofNat_of_zero_le had.1
  obtain ⟨mm, hwm, hmm⟩ := u32_wrap med
  obtain ⟨mp, hwp, hmp⟩ := u32_wrap pref
  refine ⟨putA O N SA AD path med pref mm mp atomic has comms raws wide, fun W q => ⟨?_, ?_⟩⟩
  · exact PutA_ok O N SA AD pa pc path med pref atomic has ca cc comms ra rc raws mm mp wide W (ht.below q ht.lt) ((hin.below q (Nat.le_refl _)).lift q.size) hok (by omega) (by omega) (by omega) (by omega) hwm hmm hwp hmp (by omega) (by omega) (by omega) hcm (by omega) (fun s hs => by obtain ⟨_, _, _, _, _, _, h⟩ := hre s hs; exact h)
  · exact RefPut4_ok O N SA AD pa pc path med pref atomic has ca cc comms ra rc raws mm mp wide W ((hin.below q (Nat.le_refl _)).lift q.size) (fun W' q' => hR W' (q.trans (q'.mono q.size))) (by omega) (by omega) (by omega) (by omega) hwm hmm hwp hmp (by omega) (by omega) (by omega) hcm (by omega) hre
set_option maxHeartbeats 1600000 in
theorem RefPut4_no (a : Av) (wide : Bool) (w : World) (hin : a.In w w.heap.size) (hok : a.okB = false) (hpl : a.path.length ≤ 10000) (hpt : totN a.path ≤ 1152921504606846976) (hrl : a.raws.length ≤ 1000) :
    Calls Tryd.prog 21 #[.agg a.row.toArray, .bool wide] w fun e w' => e = .returned (.tuple #[.slice none 0 0, .int .i64 1]) ∧ Below w.heap.size w w' := by
  have hb0 := (Below.refl w.heap.size w).alloc (Nat.le_refl _) (.cells a.row.toArray 27)
  have q := RefRight4_any a _ ((hin.below hb0 (Nat.le_refl _)).lift hb0.size) (by omega) (by omega) (by omega)
  rw [hok] at q
  obtain ⟨org, pa, pc, path, next, med, pref, atomic, has, sa, ad, ca, cc, comms, ra, rc, raws⟩ := a
  have Q1 := Lib.hid q; have HB0 := Lib.hid hb0
  clear q hb0 hin hok
  unfold Av.row at Q1 HB0 ⊢
  dsimp only at Q1 HB0 ⊢
  go_enter Tryd.func21, Tryd.ntmps21
  go_wp2_with fail
  refine Q1.out.mono ?_
  rintro e w1 ⟨rfl, hb1⟩
  have HB1 := Lib.hid (HB0.out.trans (hb1.mono HB0.out.size))
  clear hb1
  go_wp2_with fail
  go_ret2
  exact ⟨rfl, HB1.out⟩
theorem below_two6 {w w1 w2 : World} (h : Below w.heap.size w w1) (k : Below w1.heap.size w1 w2) : Below w.heap.size w w2 := h.trans (k.mono h.size)
set_option maxRecDepth 100000 in
set_option maxHeartbeats 25600000 in
theorem AttrsPuts.walk (a : Av) (wide : Bool) (W : World) (ht : TabK W) (ha : AvArg W a) (hwt : Wt reachBytes a.path) :
    Calls Tryd.prog 5 #[.agg a.row.toArray, .bool wide] W fun e w' => e = .returned (.bool true) ∧ Below W.heap.size W w' := by
  have hb1 := (Below.refl W.heap.size W).alloc (Nat.le_refl _) (.cells a.row.toArray 27)
  have kA := Blk.new W 27 a.row
  obtain ⟨W0, hW0⟩ : ∃ W0, W0 = W.alloc (.cells a.row.toArray 27) := ⟨_, rfl⟩
  rw [← hW0] at hb1 kA
  have HW0 := Lib.hid hW0; have HB1 := Lib.hid hb1
  have HCV := Lib.hid (fun (w : World) (h : Below W0.heap.size W0 w) => av_blk (kA.below h kA.lt))
  have HIN := Lib.hid (fun (w : World) (h : Below W0.heap.size W0 w) => (ha.inn.below (hb1.trans (h.mono hb1.size)) (Nat.le_refl _)).lift (hb1.trans (h.mono hb1.size)).size)
  have HTK := Lib.hid (fun (w : World) (h : Below W0.heap.size W0 w) => ht.below (hb1.trans (h.mono hb1.size)) ht.lt)
  have QW := Lib.hid (fun (w : World) (h : Below W0.heap.size W0 w) => awake4_any w (HTK.out w h))
  have QFA := Lib.hid (fun (w : World) (h : Below W0.heap.size W0 w) => Few4_any a w (HIN.out w h))
  have HBO := Lib.hid (fun (h : a.okB = true) => puts_both a wide W ht ha h)
  clear hb1 kA hW0 ha ht
  go_enter Tryd.func5, Tryd.ntmps5
  go_wp2_with (first
    | (refine wpList_boxA _ rfl (.tmp 0) rfl a rfl ?_)
    | (rw [← HW0.out]; refine wpList_loadA _ rfl (.tmp 2) rfl W.heap.size 0 a rfl (HCV.out _ (Below.refl _ _)) ?_))
  refine (QFA.out _ (Below.refl _ _)).mono ?_
  rintro e w1 ⟨qa, rfl, hfa, hb1⟩
  have HA := Lib.hid hb1
  clear hb1
  cases qa with
  | false =>
    clear hfa
    go_wp2_with fail
    refine (QW.out _ HA.out).mono ?_
    rintro e w2 ⟨rfl, hb2⟩
    have HB2 := Lib.hid (below_two6 HB1.out ((below_two6 HA.out hb2)))
    clear hb2
    go_wp2_with fail
    go_ret
    exact ⟨rfl, HB2.out⟩
  | true =>
    obtain ⟨hf1, hf2, hf3, hf4⟩ := hfa rfl
    have h2 : a.path.length ≤ 12 ∧ fewN a.path ≤ 300 := of_decide_eq_true hf1
    have htt := few_tot_le hf1 (fun s hs => Nat.le_trans (hwt s hs) (by unfold reachBytes; decide))
    cases hok : a.okB with
    | true =>
      obtain ⟨d, hd⟩ := HBO.out hok
      have Q1 := Lib.hid (fun (w : World) (h : Below W0.heap.size W0 w) => (hd w (below_two6 HB1.out h)).1)
      have Q2 := Lib.hid (fun (w : World) (h : Below W0.heap.size W0 w) => (hd w (below_two6 HB1.out h)).2)
      clear hd hok hf1 hf2 hf3 hf4 h2 htt hfa hwt HBO
      go_wp2_with (refine wpList_loadA _ rfl (.tmp 2) rfl W.heap.size 0 a rfl (HCV.out _ HA.out) ?_)
      refine (Q1.out _ HA.out).mono ?_
      rintro e w2 ⟨A1, c1, rfl, f1, f2, ho1, hb2⟩
      have HB := Lib.hid (below_two6 HA.out hb2)
      have HO1 := Lib.hid ho1.bytes
      clear f1 f2 ho1 hb2
      go_wp2_with (refine wpList_loadA _ rfl (.tmp 2) rfl W.heap.size 0 a rfl (HCV.out _ HB.out) ?_)
      refine (Q2.out _ HB.out).mono ?_
      rintro e w3 ⟨A2, c2, rfl, f1, f2, ho2, hb3⟩
      have HC := Lib.hid (below_two6 HB.out hb3)
      have HO1b := Lib.hid (HO1.out.below hb3)
      have HO2 := Lib.hid ho2.bytes
      have hdd : (d == d) = true := by simp
      clear f1 f2 ho2 hb3
      go_wp2_with fail
      refine (Same_any A1 A2 d.length d.length c1 c2 d d rfl rfl w3 HO1b.out HO2.out).mono ?_
      rintro e w4 ⟨rfl, rfl⟩
      rw [hdd]
      go_wp2_with fail
      refine (QW.out _ HC.out).mono ?_
      rintro e w5 ⟨rfl, hb5⟩
      have HD := Lib.hid (below_two6 HB1.out ((below_two6 HC.out hb5)))
      clear hb5
      go_wp2_with fail
      go_ret
      exact ⟨rfl, HD.out⟩
    | false =>
      have Q1 := Lib.hid (fun (w : World) (h : Below W0.heap.size W0 w) => PutA_no a wide w (HTK.out w h) (HIN.out w h) hok (by omega) (by omega) (by omega))
      have Q2 := Lib.hid (fun (w : World) (h : Below W0.heap.size W0 w) => RefPut4_no a wide w (HIN.out w h) hok (by omega) (by omega) (by omega))
      clear hok hf1 hf2 hf3 hf4 h2 htt hfa hwt HBO
      go_wp2_with (refine wpList_loadA _ rfl (.tmp 2) rfl W.heap.size 0 a rfl (HCV.out _ HA.out) ?_)
      refine (Q1.out _ HA.out).mono ?_
      rintro e w2 ⟨rfl, hb2⟩
      have HB := Lib.hid (below_two6 HA.out hb2)
      clear hb2
      go_wp2_with (refine wpList_loadA _ rfl (.tmp 2) rfl W.heap.size 0 a rfl (HCV.out _ HB.out) ?_)
      refine (Q2.out _ HB.out).mono ?_
      rintro e w3 ⟨rfl, hb3⟩
      have HC := Lib.hid (below_two6 HB.out hb3)
      clear hb3
      have QS := Lib.hid (Same_any none none 0 0 0 0 [] [] rfl rfl w3 (Bytes.nil _ _) (Bytes.nil _ _))
      go_wp2_with fail
      refine QS.out.mono ?_
      rintro e w4 ⟨rfl, rfl⟩
      go_wp2_with fail
      refine (QW.out _ HC.out).mono ?_
      rintro e w5 ⟨rfl, hb5⟩
      have HD := Lib.hid (below_two6 HB1.out ((below_two6 HC.out hb5)))
      clear hb5
      go_wp2_with fail
      go_ret
      exact ⟨rfl, HD.out⟩
end Go.Proofs.YtglbpfkfkdimaaaDoor

/-
  Texts of this seat, put together: Awake4.
-/
import Derived.Test.YtkpbldhkoobnaaaDoorReadB4Mg
import Derived.Test.YtkpbldhkoobnaaaDoorSame4Mg
import Derived.Test.YtkpbldhkoobnaaaDoorMg4
/-
  The example that every statement of this layer asks for.
-/
namespace Go.Proofs.YtkpbldhkoobnaaaDoor
set_option linter.unusedVariables false
set_option linter.unusedSimpArgs false
open Go.RowKit

/-- The kinds that are laid so far. -/
def okP (k : Nat) : Bool := k == 1 || k == 2 || k == 3 || k == 4 || k == 5 || k == 6 || k == 17
theorem steps_p (B : Nat) (wide : Bool) : Steps okP B wide := by
  intro gx f k S T A A2 c n2 c2 B' v r b W hk hB hB2 hI ht ho hc hm hl hs _
  have hk' : k = 1 ∨ k = 2 ∨ k = 3 ∨ k = 4 ∨ k = 5 ∨ k = 6 ∨ k = 17 := by
    unfold okP at hk
    simp only [Bool.or_eq_true, beq_iff_eq] at hk
    omega
  have hy := ho.bytes
  rcases hk' with rfl | rfl | rfl | rfl | rfl | rfl | rfl
  · exact (take1_step B gx f wide S T A A2 c n2 c2 v r b W hI ht hy hc hm hl hs).mono fun e W' h => h.all hB hB2
  · exact (take2_step B gx f wide S T A A2 c n2 c2 v r b W hI ht hy hc hm hl hs).mono fun e W' h => h.all hB hB2
  · exact (take3_step B gx f wide S T A A2 c n2 c2 v r b W hI ht hy hc hm hl hs).mono fun e W' h => h.all hB hB2
  · exact (take4_step B gx f wide S T A A2 c n2 c2 v r b W hI ht hy hc hm hl hs).mono fun e W' h => h.all hB hB2
  · exact (take5_step B gx f wide S T A A2 c n2 c2 v r b W hI ht hy hc hm hl hs).mono fun e W' h => h.all hB hB2
  · exact (take6_step B gx f wide S T A A2 c n2 c2 v r b W hI ht hy hc hm hl hs).mono fun e W' h => h.all hB hB2
  · exact (take17_step B gx f wide S T A A2 c n2 c2 v r b W hI ht hy hc hm hl hs).mono fun e W' h => h.all hB hB2
/-- The example's bytes. -/
def exB : List UInt8 := putA 0 167772161 0 0 [] (-1) (-1) 4294967295 4294967295 false false [] [] true
def exS : Rs := ⟨0, [], 167772161, -1, -1, false, false, 0, 0, [], [], [1, 2, 3], [], []⟩
theorem exB_is : exB = wholeL 64 1 [0] ++ (wholeL 64 2 [] ++ (wholeL 64 3 [10, 0, 0, 1] ++ [])) := by decide +kernel
theorem exRun : RunK okP true exB rs0 exS := by
  rw [exB_is]
  obtain ⟨f1, h1, e1⟩ := nextA_whole (f := 64) (k := 1) (v := [0]) (r := wholeL 64 2 [] ++ (wholeL 64 3 [10, 0, 0, 1] ++ [])) (.inl rfl) (by decide) (by decide)
  obtain ⟨f2, h2, e2⟩ := nextA_whole (f := 64) (k := 2) (v := []) (r := wholeL 64 3 [10, 0, 0, 1] ++ []) (.inl rfl) (by decide) (by decide)
  obtain ⟨f3, h3, e3⟩ := nextA_whole (f := 64) (k := 3) (v := [10, 0, 0, 1]) (r := []) (.inl rfl) (by decide) (by decide)
  refine RunK.more (T := ⟨0, [], 0, -1, -1, false, false, 0, 0, [], [], [1], [], []⟩) (by decide) (by rw [e1]) (by rw [e1]; rfl) (by rw [e1]; exact st1 (by simp [rs0]) ⟨h1, rfl, by decide⟩) ?_
  rw [e1]
  refine RunK.more (T := ⟨0, [], 0, -1, -1, false, false, 0, 0, [], [], [1, 2], [], []⟩) (by show wholeL 64 2 [] ++ (wholeL 64 3 [10, 0, 0, 1] ++ []) ≠ []; decide) (by rw [e2]) (by rw [e2]; rfl) (by rw [e2]; exact st2 (by simp) h2 (by decide +kernel)) ?_
  rw [e2]
  refine RunK.more (T := exS) (by show wholeL 64 3 [10, 0, 0, 1] ++ [] ≠ []; decide) (by rw [e3]) (by rw [e3]; rfl) (by rw [e3]; exact st3 (by simp) ⟨h3, rfl, by decide⟩) ?_
  rw [e3]
  exact RunK.nil _ _ _
theorem exLen : exB.length = 14 := by decide +kernel
/-- The example's attributes. -/
def exA : Av := ⟨((0 : Nat) : Int), none, 0, [], ((167772161 : Nat) : Int), -1, -1, false, false, ((0 : Nat) : Int), ((0 : Nat) : Int), none, 0, [], none, 0, []⟩
theorem exA_in (w : World) : exA.In w w.heap.size := ⟨Segs.nil _ _ _, ⟨Nat.le_refl _, Nat.zero_le _⟩, At32.nil _ _ _, ⟨Nat.le_refl _, Nat.zero_le _⟩, RwIn.nil _ _ _, ⟨Nat.le_refl _, Nat.zero_le _⟩, fun s hs => by cases hs⟩
theorem exPut (w : World) (ht : TabK w) : Calls Tryd.prog 20 #[.agg #[.int .i64 0, .slice none 0 0, .int .u32 167772161, .int .i64 (-1), .int .i64 (-1), .bool false, .bool false, .int .u32 0, .int .u32 0, .slice none 0 0, .slice none 0 0], .bool true] w (RetPut w exB) :=
  PutA_ok 0 167772161 0 0 none 0 [] (-1) (-1) false false none 0 [] none 0 [] 4294967295 4294967295 true w ht (exA_in w) (by decide +kernel) (by decide) (by decide) (by decide) (by decide) (by decide) (by decide) (by decide) (by decide) (by decide) (by decide) (by decide) (fun n hn => by cases hn) (by decide) (fun s hs => by cases hs)
theorem exSame {x : Av} (h1 : x.org = ((0 : Nat) : Int)) (h2 : x.path.map Sg.abs = []) (h3 : x.next = ((167772161 : Nat) : Int)) (h4 : x.med = -1) (h5 : x.pref = -1) (h6 : x.atomic = false) (h7 : x.has = false) (h8 : x.aas = ((0 : Nat) : Int)) (h9 : x.aad = ((0 : Nat) : Int)) (h10 : x.comms = []) (h11 : x.raws.map Rw.abs = []) : x.same exA = true := by
  have e1 : x.path = [] := by simpa using h2
  have e2 : x.raws = [] := by simpa using h11
  unfold Av.same exA
  rw [h1, h3, h4, h5, h6, h7, h8, h9, h10, e1, e2]
  decide
set_option maxRecDepth 100000 in
set_option maxHeartbeats 12800000 in
theorem awake4_any (w : World) (ht : TabK w) : Calls Tryd.prog 9 #[] w fun e w' => e = .returned (.bool true) ∧ Below w.heap.size w w' := by
  have QZ := Lib.hid (Zero_any w)
  unfold zeroRow at QZ
  have HT := Lib.hid (fun (W : World) (hb : Below w.heap.size w W) => ht.below hb ht.lt)
  clear ht
  go_enter Tryd.func9, Tryd.ntmps9
  go_wp2_with fail
  refine QZ.out.mono ?_
  rintro e w1 ⟨rfl, hb1⟩
  obtain ⟨W2, hW2⟩ : ∃ W2, W2 = w1.alloc (.cells #[.int .i64 0, .slice none 0 0, .int .u32 167772161, .int .i64 (-1), .int .i64 (-1), .bool false, .bool false, .int .u32 0, .int .u32 0, .slice none 0 0, .slice none 0 0] 27) := ⟨_, rfl⟩
  have hb2 : Below w.heap.size w W2 := by rw [hW2]; exact hb1.alloc hb1.size _
  have K2 : Blk W2 w1.heap.size 27 [.int .i64 0, .slice none 0 0, .int .u32 167772161, .int .i64 (-1), .int .i64 (-1), .bool false, .bool false, .int .u32 0, .int .u32 0, .slice none 0 0, .slice none 0 0] := by rw [hW2]; exact Blk.new w1 _ _
  have QP := Lib.hid (exPut W2 (HT.out W2 hb2))
  have HW2 := Lib.hid hW2; have HB2 := Lib.hid hb2; have HK2 := Lib.hid K2
  clear hb1 hW2 hb2 K2 QZ
  go_wp2_with fail
  rw [← HW2.out]
  refine QP.out.mono ?_
  rintro e w3 ⟨A3, c3, rfl, f1, f2, ho, hb3⟩
  have hb03 := HB2.out.trans (hb3.mono HB2.out.size)
  have q := ReadA_wide okP A3 c3 exB w3 (HT.out w3 hb03) ho.bytes f1 f2 (by rw [exLen]; decide) exS exRun (steps_p _ _)
  have e14 := exLen
  rw [exLen] at q
  have QR := Lib.hid q
  have HB3 := Lib.hid hb03
  have K3 := Lib.hid (HK2.out.below hb3 HK2.out.lt)
  clear f1 f2 ho hb3 hb03 QP HK2 HB2 q HW2
  go_wp2_with fail
  refine QR.out.mono ?_
  rintro e w4 ⟨x, kA, kc, rfl, hin, hb4, h1, h2, h3, h4, h5, h6, h7, h8, h9, h10, h11⟩
  have hsm := exSame h1 h2 h3 h4 h5 h6 h7 h8 h9 h10 h11
  clear h1 h2 h3 h4 h5 h6 h7 h8 h9 h10 h11 QR e14
  have hpl : x.path.length ≤ 1000000000 := by
    unfold Av.same exA at hsm
    simp only [Bool.and_eq_true] at hsm
    have := of_decide_eq_true hsm.1.1.2
    simp at this
    rw [this]; simp
  have hrl : x.raws.length ≤ 1000000000 := by
    unfold Av.same exA at hsm
    simp only [Bool.and_eq_true] at hsm
    have := of_decide_eq_true hsm.2
    simp at this
    rw [this]; simp
  obtain ⟨W5, hW5⟩ : ∃ W5, W5 = (w4.alloc (.cells x.row.toArray 27)).alloc (.cells #[.int .i64 0, .int .i64 0, .slice none 0 0] 46) := ⟨_, rfl⟩
  have hb5 : Below w4.heap.size w4 W5 := by rw [hW5]; exact ((Below.refl _ _).alloc (Nat.le_refl _) _).alloc (by simp) _
  have kx : Blk W5 w4.heap.size 27 x.row := by
    rw [hW5]
    exact (Blk.new w4 _ _).below ((Below.refl _ _).alloc (Nat.le_refl _) _) (by simp)
  have kf : Blk W5 (w4.heap.size + 1) 46 [.int .i64 0, .int .i64 0, .slice none 0 0] := by
    have := Blk.new (w4.alloc (.cells x.row.toArray 27)) 46 [.int .i64 0, .int .i64 0, .slice none 0 0]
    rw [hW5]
    simpa using this
  have ka := (K3.out.below hb4 K3.out.lt).below hb5 (K3.out.below hb4 K3.out.lt).lt
  have hb05 := HB3.out.trans ((hb4.trans (hb5.mono hb4.size)).mono HB3.out.size)
  have qs := Same_attrs x exA W5 ((hin.below hb5 (Nat.le_refl _)).lift hb5.size) (exA_in W5) hpl hrl
  rw [hsm] at qs
  have QK := Lib.hid (fun (W : World) (hb : Below W5.heap.size W5 W) => Known_any 17 W (HT.out W (hb05.trans (hb.mono hb05.size))))
  rw [show knownB 17 = true by decide] at QK
  have HB5 := Lib.hid hb05
  obtain ⟨org, pa, pc, path, next, med, pref, atomic, has, aas, aad, ca, cc, comms, ra, rc, raws⟩ := x
  have QS := Lib.hid (show Calls Tryd.prog 19 #[.agg #[.int .i64 org, .slice pa path.length pc, .int .u32 next, .int .i64 med, .int .i64 pref, .bool atomic, .bool has, .int .u32 aas, .int .u32 aad, .slice ca comms.length cc, .slice ra raws.length rc], .agg #[.int .i64 0, .slice none 0 0, .int .u32 167772161, .int .i64 (-1), .int .i64 (-1), .bool false, .bool false, .int .u32 0, .int .u32 0, .slice none 0 0, .slice none 0 0]] W5 fun e w' => e = .returned (.bool true) ∧ Below W5.heap.size W5 w' from qs)
  have HW5' := (show W5 = (w4.alloc (.cells #[.int .i64 org, .slice pa path.length pc, .int .u32 next, .int .i64 med, .int .i64 pref, .bool atomic, .bool has, .int .u32 aas, .int .u32 aad, .slice ca comms.length cc, .slice ra raws.length rc] 27)).alloc (.cells #[.int .i64 0, .int .i64 0, .slice none 0 0] 46) from hW5)
  clear hW5
  have hW5 := HW5'
  clear HW5'
  unfold Av.row at kx
  dsimp only at kx
  have cx := cells11 kx
  have ca2 := cells11 ka
  have f0 : W5.cell? ⟨w4.heap.size + 1, 0, none⟩ = some (.int .i64 0) := kf.cell 0
  unfold Av.row fault0
  dsimp only
  have e3 : exS.kinds.length = 3 := rfl
  clear hin hb4 hb5 kx kf ka hb05 qs hsm hpl hrl K3 HB3
  subst hW5
  go_wp2_with fail
  refine QS.out.mono ?_
  rintro e w6 ⟨rfl, hb6⟩
  have HB6 := Lib.hid (HB5.out.trans (hb6.mono HB5.out.size))
  have Q17 := Lib.hid (QK.out w6 hb6)
  clear hb6 cx ca2 f0 e3 HB5 QK QS
  go_wp2_with fail
  refine Q17.out.mono ?_
  rintro e w7 ⟨rfl, hb7⟩
  have HB7 := Lib.hid (HB6.out.trans (hb7.mono HB6.out.size))
  clear hb7
  go_wp2_with fail
  go_ret
  exact ⟨rfl, HB7.out⟩
end Go.Proofs.YtkpbldhkoobnaaaDoor

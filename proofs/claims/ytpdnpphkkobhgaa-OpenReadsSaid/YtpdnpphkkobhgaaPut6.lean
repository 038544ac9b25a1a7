/-
  An OPEN's body.
-/
import Derived.Test.YtpdnpphkkobhgaaPutCaps6
import Derived.Test.YtpdnpphkkobhgaaPutA
import Derived.Test.YtpdnpphkkobhgaaMine6
namespace Go.Proofs.Ytpdnpphkkobhgaa
set_option linter.unusedVariables false
set_option linter.unusedSimpArgs false
open Go.RowKit

/-- The parameters of an OPEN with the capabilities cs, as bytes. -/
def parF (cs : List UInt8) : List UInt8 := if cs = [] then [] else partL 2 cs
def bodyF (ver sys hold id : Int) (p : List UInt8) : List UInt8 := [byteI ver] ++ (be16 sys ++ (be16 hold ++ (be32 id ++ ([byteI (p.length : Int)] ++ (p ++ [])))))
/-- An OPEN's body, if it has one. -/
def putF6 (ver sys hold id : Int) (L : List (Int × List UInt8)) : Option (List UInt8) :=
  match putCapsF [] L with
  | none => none
  | some cs => if allUp 255 [ver] = true ∧ allUp 65535 [sys, hold] = true then some (bodyF ver sys hold id (parF cs)) else none
def RetPut6 (w : World) (x : Option (List UInt8)) (e : Ending) (w' : World) : Prop :=
  Below w.heap.size w w' ∧ ((x = none ∧ e = .returned (.tuple #[.slice none 0 0, .int .i64 1])) ∨
   ∃ A c l, x = some l ∧ e = .returned (.tuple #[.slice A l.length c, .int .i64 0]) ∧ l.length ≤ c ∧ c ≤ maxLen ∧ Own w' w.heap.size 5 (.slice A l.length c) l)
/-- The value v is a slice of bytes l of the call's own. -/
def RB (w : World) (B : Nat) (l : List UInt8) (v : Value) : Prop := ∃ A c, v = .slice A l.length c ∧ l.length ≤ c ∧ c ≤ maxLen ∧ Own w B 5 (.slice A l.length c) l
theorem RB.below {w w' : World} {B : Nat} {l : List UInt8} {v : Value} (h : RB w B l v) (hb : Below w.heap.size w w') : RB w' B l v := by
  obtain ⟨A, c, e, h1, h2, ho⟩ := h
  exact ⟨A, c, e, h1, h2, ho.below hb⟩
theorem RB.lower {w : World} {B B' : Nat} {l : List UInt8} {v : Value} (h : RB w B l v) (hB : B' ≤ B) : RB w B' l v := by
  obtain ⟨A, c, e, h1, h2, ho⟩ := h
  exact ⟨A, c, e, h1, h2, ho.lower hB⟩
theorem own_one8 (w : World) (e : Nat) (a : Int) : Own (w.alloc (.cells #[.int .u8 (IntKind.u8.wrap a)] e)) w.heap.size e (.slice (some ⟨w.heap.size, 0, none⟩) 1 1) [byteI a] := by
  refine ⟨by simp, .inr ⟨w.heap.size, 1, _, rfl, Nat.le_refl _, heap_alloc_new w _, Nat.le_refl _, by unfold maxLen; omega, rfl, ?_⟩⟩
  have h1 := byteI_val a
  simp [h1]
theorem two_int (w : World) (e : Nat) (k m : Int) : Ints (w.alloc (.cells #[.int .i64 k, .int .i64 m] e)) (some ⟨w.heap.size, 0, none⟩) [k, m] := fun _ =>
  ⟨w.heap.size, 0, rfl, by simp, fun j hj => by
    rcases j with _ | _ | j
    · exact (Blk.new w e [.int .i64 k, .int .i64 m]).cell 0
    · exact (Blk.new w e [.int .i64 k, .int .i64 m]).cell 1
    · simp at hj; omega⟩
def PD (L B : Nat) (ver sys hold id : Int) (vp : Value) (p : List UInt8) : Nat → World → Value → Prop
  | 0, w, v => v = .pointer (some ⟨L, 0, none⟩)
  | 1, w, v => v = .int .i64 ver
  | 2, w, v => v = .int .u8 (IntKind.u8.wrap ver)
  | 3, w, v => RB w B [byteI ver] v
  | 4, w, v => v = .pointer (some ⟨L, 1, none⟩)
  | 5, w, v => v = .int .i64 sys
  | 6, w, v => RB w B (be16 sys) v
  | 7, w, v => v = .pointer (some ⟨L, 2, none⟩)
  | 8, w, v => v = .int .i64 hold
  | 9, w, v => RB w B (be16 hold) v
  | 10, w, v => v = .pointer (some ⟨L, 3, none⟩)
  | 11, w, v => v = .int .u32 id
  | 12, w, v => RB w B (be32 id) v
  | 13, w, v => v = vp
  | 14, w, v => v = .int .i64 (p.length : Int)
  | 15, w, v => v = .int .u8 (IntKind.u8.wrap (p.length : Int))
  | 16, w, v => RB w B [byteI (p.length : Int)] v
  | 17, w, v => v = vp
  | 18, w, v => ∃ g S, v = .slice (some ⟨g, 0, none⟩) 6 6 ∧ S.length = 6 ∧ Sls w g S ∧ joinB S = bodyF ver sys hold id p
  | 19, w, v => RB w B (bodyF ver sys hold id p) v
  | 20, w, v => RB w B (bodyF ver sys hold id p) v
  | _, w, v => v = .int .i64 0
theorem PD.keep {L B : Nat} {ver sys hold id : Int} {vp : Value} {p : List UInt8} (i : Nat) (w w' : World) (v : Value) (hd : PD L B ver sys hold id vp p i w v) (hr : Below w.heap.size w w') : PD L B ver sys hold id vp p i w' v := by
  match i, hd with
  | 0, hd => exact hd
  | 1, hd => exact hd
  | 2, hd => exact hd
  | 3, hd => exact RB.below hd hr
  | 4, hd => exact hd
  | 5, hd => exact hd
  | 6, hd => exact RB.below hd hr
  | 7, hd => exact hd
  | 8, hd => exact hd
  | 9, hd => exact RB.below hd hr
  | 10, hd => exact hd
  | 11, hd => exact hd
  | 12, hd => exact RB.below hd hr
  | 13, hd => exact hd
  | 14, hd => exact hd
  | 15, hd => exact hd
  | 16, hd => exact RB.below hd hr
  | 17, hd => exact hd
  | 18, ⟨g, S, e, h1, h2, h3⟩ => exact ⟨g, S, e, h1, h2.below hr, h3⟩
  | 19, hd => exact RB.below hd hr
  | 20, hd => exact RB.below hd hr
  | n + 21, hd => exact hd

theorem body_len (ver sys hold id : Int) (p : List UInt8) : (bodyF ver sys hold id p).length = p.length + 10 := by
  simp [bodyF, be16, be32]
set_option maxRecDepth 100000 in
set_option maxHeartbeats 6400000 in
theorem Put6_any (ver sys hold id : Int) (A : Option Addr) (c : Nat) (L : List Cp) (w : World) (h : CpIn w w.heap.size A L) (hl : L.length ≤ 1152921504606846976) (hr : ∀ s ∈ L, s.data.length ≤ s.cap ∧ s.cap ≤ maxLen) (hd : ∀ s ∈ L, s.data.length ≤ 1000000)
    (hs : -9223372036854775808 ≤ sys ∧ sys ≤ 9223372036854775807) (hh : -9223372036854775808 ≤ hold ∧ hold ≤ 9223372036854775807) (hi : 0 ≤ id ∧ id < 4294967296) :
    Calls Try.prog 9 #[.agg #[.int .i64 ver, .int .i64 sys, .int .i64 hold, .int .u32 id, .slice A L.length c]] w (RetPut6 w (putF6 ver sys hold id (L.map Cp.abs))) := by
  have hb0 := (Below.refl w.heap.size w).alloc (Nat.le_refl _) (.cells #[.int .i64 ver, .int .i64 sys, .int .i64 hold, .int .u32 id, .slice A L.length c] 25)
  have kO := Blk.new w 25 [.int .i64 ver, .int .i64 sys, .int .i64 hold, .int .u32 id, .slice A L.length c]
  have q := putCaps_any A L.length c L rfl _ ((h.below hb0 (Nat.le_refl _)).lift hb0.size) hl hr hd
  have HB0 := Lib.hid hb0; have HO := Lib.hid kO
  have hz : (w.alloc (.cells #[.int .i64 ver, .int .i64 sys, .int .i64 hold, .int .u32 id, .slice A L.length c] 25)).heap.size = w.heap.size + 1 := by simp
  have HZ := Lib.hid hz
  have HX := Lib.hid (show putF6 ver sys hold id (L.map Cp.abs) = (match putCapsF [] (L.map Cp.abs) with | none => none | some cs => if allUp 255 [ver] = true ∧ allUp 65535 [sys, hold] = true then some (bodyF ver sys hold id (parF cs)) else none) from rfl)
  have HI := Lib.hid (And.intro hs (And.intro hh hi))
  obtain ⟨x, hx⟩ : ∃ x, x = putCapsF [] (L.map Cp.abs) := ⟨_, rfl⟩
  rw [← hx] at q HX
  have Q := Lib.hid q
  clear hx q h hl hr hd hb0 kO hz hs hh hi
  unfold RetPutCaps at Q
  go_enter Try.func9, Try.ntmps9
  go_wp2_with fail
  refine Q.out.mono ?_
  rintro e w1 ⟨hb1, ⟨rfl, rfl⟩ | ⟨A1, c1, cs, rfl, rfl, hcs, f1, g1, ho1⟩⟩
  · have HB1 := Lib.hid (HB0.out.trans (hb1.mono HB0.out.size))
    clear hb1
    go_wp2_with fail
    exact bodyPost_ret (v := .tuple #[.slice none 0 0, .int .i64 1]) (by simp [results, Try.results9, go_sem]) rfl ⟨HB1.out, .inl ⟨HX.out, rfl⟩⟩
  · have HB1 := Lib.hid (HB0.out.trans (hb1.mono HB0.out.size))
    have kO1 := HO.out.below hb1 HO.out.lt
    have o0 : World.cell? _ ⟨w.heap.size, 0, none⟩ = some _ := kO1.cell 0
    have HO1 := Lib.hid kO1
    have HS1 := Lib.hid (Nat.le_trans (Nat.le_of_eq (HZ.out.symm)) hb1.size)
    have HC := Lib.hid (And.intro hcs (And.intro f1 (And.intro g1 ho1)))
    have QV := Lib.hid (upTo_any 255 (some ⟨w1.heap.size, 0, none⟩) 1 1 [ver] rfl _ (one_int w1 3 ver) (by simp))
    clear hb1 kO1 hcs f1 g1 ho1
    obtain ⟨bv, hbv⟩ : ∃ b, b = allUp 255 [ver] := ⟨_, rfl⟩
    rw [← hbv] at QV
    have HBV := Lib.hid hbv
    clear hbv
    cases bv with
    | false =>
      have HN := Lib.hid (show putF6 ver sys hold id (L.map Cp.abs) = none by rw [HX.out]; exact if_neg (fun h => by rw [← HBV.out] at h; exact absurd h.1 (by decide)))
      go_wp2_with fail
      refine QV.out.mono ?_
      rintro e w2 ⟨rfl, hb2⟩
      have HB2 := Lib.hid (HB1.out.trans ((((Below.refl w1.heap.size w1).alloc (Nat.le_refl _) _).trans (hb2.mono (by simp))).mono HB1.out.size))
      clear hb2
      go_wp2_with fail
      exact bodyPost_ret (v := .tuple #[.slice none 0 0, .int .i64 1]) (by simp [results, Try.results9, go_sem]) rfl ⟨HB2.out, .inl ⟨HN.out, rfl⟩⟩
    | true =>
      go_wp2_with fail
      refine QV.out.mono ?_
      rintro e w2 ⟨rfl, hb2⟩
      have hb12 := ((Below.refl w1.heap.size w1).alloc (Nat.le_refl _) (.cells #[.int .i64 ver] 3)).trans (hb2.mono (by simp))
      have HB2 := Lib.hid (HB1.out.trans (hb12.mono HB1.out.size))
      have kO2 := HO1.out.below hb12 HO1.out.lt
      have p1 : World.cell? _ ⟨w.heap.size, 1, none⟩ = some _ := kO2.cell 1
      have p2 : World.cell? _ ⟨w.heap.size, 2, none⟩ = some _ := kO2.cell 2
      have HO2 := Lib.hid kO2
      have HS2 := Lib.hid (Nat.le_trans HS1.out hb12.size)
      have HC2 := Lib.hid (HC.out.2.2.2.below hb12)
      have QW := Lib.hid (upTo_any 65535 (some ⟨w2.heap.size, 0, none⟩) 2 2 [sys, hold] rfl _ (two_int w2 3 sys hold) (by simp))
      clear hb2 hb12 kO2 o0 QV
      obtain ⟨bw, hbw⟩ : ∃ b, b = allUp 65535 [sys, hold] := ⟨_, rfl⟩
      rw [← hbw] at QW
      have HBW := Lib.hid hbw
      clear hbw
      cases bw with
      | false =>
        have HN := Lib.hid (show putF6 ver sys hold id (L.map Cp.abs) = none by rw [HX.out]; exact if_neg (fun h => by rw [← HBW.out] at h; exact absurd h.2 (by decide)))
        go_wp2_with fail
        refine QW.out.mono ?_
        rintro e w3 ⟨rfl, hb3⟩
        have HB3 := Lib.hid (HB2.out.trans ((((Below.refl w2.heap.size w2).alloc (Nat.le_refl _) _).trans (hb3.mono (by simp))).mono HB2.out.size))
        clear hb3
        go_wp2_with fail
        exact bodyPost_ret (v := .tuple #[.slice none 0 0, .int .i64 1]) (by simp [results, Try.results9, go_sem]) rfl ⟨HB3.out, .inl ⟨HN.out, rfl⟩⟩
      | true =>
        have HN := Lib.hid (show putF6 ver sys hold id (L.map Cp.abs) = some (bodyF ver sys hold id (parF cs)) by rw [HX.out]; exact if_pos ⟨HBV.out.symm, HBW.out.symm⟩)
        go_wp2_with fail
        refine QW.out.mono ?_
        rintro e w3 ⟨rfl, hb3⟩
        have hb23 := ((Below.refl w2.heap.size w2).alloc (Nat.le_refl _) (.cells #[.int .i64 sys, .int .i64 hold] 3)).trans (hb3.mono (by simp))
        have HB3 := Lib.hid (HB2.out.trans (hb23.mono HB2.out.size))
        have HO3 := Lib.hid (HO2.out.below hb23 HO2.out.lt)
        have HC3 := Lib.hid (HC2.out.below hb23)
        clear hb3 hb23 p1 p2 QW
        by_cases hcs : cs = []
        · subst hcs
          have HP := Lib.hid (show parF [] = [] from rfl)
          go_wp2_with fail
          have hpb : Bytes w3 none [] := Bytes.nil _ _
          have hpl : ([] : List UInt8).length ≤ 1000000 := by simp
          refine region_flow (by kernel_rfl) (PD w.heap.size w3.heap.size ver sys hold id (.slice none 0 0) []) (fun W W' => Below W.heap.size W W') (fun W => Below w3.heap.size w3 W) PD.keep (fun W W' h k => h.trans (k.mono h.size)) (by kernel_rfl) ((Below.refl _ _).drew) ?_ ?_
          · intro i o ho A W hInv hfree hdep
            rcases i with _ | _ | _ | _ | _ | _ | _ | _ | _ | _ | _ | _ | _ | _ | _ | _ | _ | _ | _ | _ | _ | _ | i
            · cases (show some _ = some o from ho)
              have e1 : A.tmps.getD 1 undef = .pointer (some ⟨w.heap.size, 0, none⟩) := hfree 1 (by kernel_rfl)
              unfold OpTo
              go_simp
              exact ⟨Below.refl _ _, rfl⟩
            · cases (show some _ = some o from ho)
              have e36 : A.tmps.getD 36 undef = .pointer (some ⟨w.heap.size, 0, none⟩) := hdep 0 _ 36 rfl rfl (by kernel_rfl)
              have cL : W.cell? ⟨w.heap.size, 0, none⟩ = some (.int .i64 ver) := (HO3.out.below hInv HO3.out.lt).cell 0
              unfold OpTo
              go_simp
              exact ⟨Below.refl _ _, rfl⟩
            · cases (show some _ = some o from ho)
              have e37 : A.tmps.getD 37 undef = .int .i64 ver := hdep 1 _ 37 rfl rfl (by kernel_rfl)
              unfold OpTo
              go_simp
              exact ⟨Below.refl _ _, rfl⟩
            · cases (show some _ = some o from ho)
              have e38 : A.tmps.getD 38 undef = .int .u8 (IntKind.u8.wrap ver) := hdep 2 _ 38 rfl rfl (by kernel_rfl)
              have q38 := e38
              rw [Array.getD_eq_getD_getElem?] at q38
              unfold OpTo
              go_simp
              exact ⟨(Below.refl _ _).alloc (Nat.le_refl _) _, _, 1, rfl, Nat.le_refl _, by unfold maxLen; omega, (own_one8 W _ ver).lower hInv.size⟩
            · cases (show some _ = some o from ho)
              have e1 : A.tmps.getD 1 undef = .pointer (some ⟨w.heap.size, 0, none⟩) := hfree 1 (by kernel_rfl)
              unfold OpTo
              go_simp
              exact ⟨Below.refl _ _, rfl⟩
            · cases (show some _ = some o from ho)
              have e40 : A.tmps.getD 40 undef = .pointer (some ⟨w.heap.size, 1, none⟩) := hdep 4 _ 40 rfl rfl (by kernel_rfl)
              have cL : W.cell? ⟨w.heap.size, 1, none⟩ = some (.int .i64 sys) := (HO3.out.below hInv HO3.out.lt).cell 1
              unfold OpTo
              go_simp
              exact ⟨Below.refl _ _, rfl⟩
            · cases (show some _ = some o from ho)
              have e41 : A.tmps.getD 41 undef = .int .i64 sys := hdep 5 _ 41 rfl rfl (by kernel_rfl)
              unfold OpTo
              go_simp
              refine (Put16_any none 0 0 [] rfl sys W (by simp) (Bytes.nil _ _) HI.out.1.1 HI.out.1.2).mono ?_
              rintro e wx ⟨A', c', rfl, f, g, ho', hb⟩
              exact ⟨_, rfl, hb, A', c', rfl, f, g, ho'.lower hInv.size⟩
            · cases (show some _ = some o from ho)
              have e1 : A.tmps.getD 1 undef = .pointer (some ⟨w.heap.size, 0, none⟩) := hfree 1 (by kernel_rfl)
              unfold OpTo
              go_simp
              exact ⟨Below.refl _ _, rfl⟩
            · cases (show some _ = some o from ho)
              have e43 : A.tmps.getD 43 undef = .pointer (some ⟨w.heap.size, 2, none⟩) := hdep 7 _ 43 rfl rfl (by kernel_rfl)
              have cL : W.cell? ⟨w.heap.size, 2, none⟩ = some (.int .i64 hold) := (HO3.out.below hInv HO3.out.lt).cell 2
              unfold OpTo
              go_simp
              exact ⟨Below.refl _ _, rfl⟩
            · cases (show some _ = some o from ho)
              have e44 : A.tmps.getD 44 undef = .int .i64 hold := hdep 8 _ 44 rfl rfl (by kernel_rfl)
              unfold OpTo
              go_simp
              refine (Put16_any none 0 0 [] rfl hold W (by simp) (Bytes.nil _ _) HI.out.2.1.1 HI.out.2.1.2).mono ?_
              rintro e wx ⟨A', c', rfl, f, g, ho', hb⟩
              exact ⟨_, rfl, hb, A', c', rfl, f, g, ho'.lower hInv.size⟩
            · cases (show some _ = some o from ho)
              have e1 : A.tmps.getD 1 undef = .pointer (some ⟨w.heap.size, 0, none⟩) := hfree 1 (by kernel_rfl)
              unfold OpTo
              go_simp
              exact ⟨Below.refl _ _, rfl⟩
            · cases (show some _ = some o from ho)
              have e46 : A.tmps.getD 46 undef = .pointer (some ⟨w.heap.size, 3, none⟩) := hdep 10 _ 46 rfl rfl (by kernel_rfl)
              have cL : W.cell? ⟨w.heap.size, 3, none⟩ = some (.int .u32 id) := (HO3.out.below hInv HO3.out.lt).cell 3
              unfold OpTo
              go_simp
              exact ⟨Below.refl _ _, rfl⟩
            · cases (show some _ = some o from ho)
              have e47 : A.tmps.getD 47 undef = .int .u32 id := hdep 11 _ 47 rfl rfl (by kernel_rfl)
              unfold OpTo
              go_simp
              refine (Put32_any none 0 0 [] rfl id W (by simp) (Bytes.nil _ _) HI.out.2.2.1 HI.out.2.2.2).mono ?_
              rintro e wx ⟨A', c', rfl, f, g, ho', hb⟩
              exact ⟨_, rfl, hb, A', c', rfl, f, g, ho'.lower hInv.size⟩
            · cases (show some _ = some o from ho)
              have e6 : A.tmps.getD 6 undef = .slice none 0 0 := hfree 6 (by kernel_rfl)
              unfold OpTo
              go_simp
              exact ⟨Below.refl _ _, rfl⟩
            · cases (show some _ = some o from ho)
              have e49 : A.tmps.getD 49 undef = .slice none 0 0 := hdep 13 _ 49 rfl rfl (by kernel_rfl)
              unfold OpTo
              go_simp
              exact ⟨Below.refl _ _, rfl⟩
            · cases (show some _ = some o from ho)
              have e50 : A.tmps.getD 50 undef = .int .i64 (([] : List UInt8).length : Int) := hdep 14 _ 50 rfl rfl (by kernel_rfl)
              unfold OpTo
              go_simp
              exact ⟨Below.refl _ _, rfl⟩
            · cases (show some _ = some o from ho)
              have e51 : A.tmps.getD 51 undef = .int .u8 (IntKind.u8.wrap (([] : List UInt8).length : Int)) := hdep 15 _ 51 rfl rfl (by kernel_rfl)
              have q51 := e51
              rw [Array.getD_eq_getD_getElem?] at q51
              unfold OpTo
              go_simp
              exact ⟨(Below.refl _ _).alloc (Nat.le_refl _) _, _, 1, rfl, Nat.le_refl _, by unfold maxLen; omega, (own_one8 W _ (([] : List UInt8).length : Int)).lower hInv.size⟩
            · cases (show some _ = some o from ho)
              have e6 : A.tmps.getD 6 undef = .slice none 0 0 := hfree 6 (by kernel_rfl)
              unfold OpTo
              go_simp
              exact ⟨Below.refl _ _, rfl⟩
            · cases (show some _ = some o from ho)
              obtain ⟨A9, c9, e39, f39, g39, h39⟩ := hdep 3 _ 39 rfl rfl (by kernel_rfl)
              have q39 := e39
              rw [Array.getD_eq_getD_getElem?] at q39
              obtain ⟨B9, d9, e42, f42, g42, h42⟩ := hdep 6 _ 42 rfl rfl (by kernel_rfl)
              have q42 := e42
              rw [Array.getD_eq_getD_getElem?] at q42
              obtain ⟨C9, k9, e45, f45, g45, h45⟩ := hdep 9 _ 45 rfl rfl (by kernel_rfl)
              have q45 := e45
              rw [Array.getD_eq_getD_getElem?] at q45
              obtain ⟨D9, l9, e48, f48, g48, h48⟩ := hdep 12 _ 48 rfl rfl (by kernel_rfl)
              have q48 := e48
              rw [Array.getD_eq_getD_getElem?] at q48
              obtain ⟨E9, m9, e52, f52, g52, h52⟩ := hdep 16 _ 52 rfl rfl (by kernel_rfl)
              have q52 := e52
              rw [Array.getD_eq_getD_getElem?] at q52
              have e53 : A.tmps.getD 53 undef = .slice none 0 0 := hdep 17 _ 53 rfl rfl (by kernel_rfl)
              have q53 := e53
              rw [Array.getD_eq_getD_getElem?] at q53
              unfold OpTo
              go_simp
              refine ⟨(Below.refl _ _).alloc (Nat.le_refl _) _, W.heap.size, [(A9, c9, [byteI ver]), (B9, d9, be16 sys), (C9, k9, be16 hold), (D9, l9, be32 id), (E9, m9, [byteI (([] : List UInt8).length : Int)]), (none, 0, [])], rfl, rfl, sls_of_blk (Blk.new W _ _) ?_, rfl⟩
              intro x hx
              simp only [List.mem_cons, List.not_mem_nil, or_false] at hx
              rcases hx with rfl | rfl | rfl | rfl | rfl | rfl
              · exact h39.bytes.alloc _
              · exact h42.bytes.alloc _
              · exact h45.bytes.alloc _
              · exact h48.bytes.alloc _
              · exact h52.bytes.alloc _
              · exact (hpb.below hInv).alloc _
            · cases (show some _ = some o from ho)
              obtain ⟨g9, S9, e54, h6, hsl, hj⟩ := hdep 18 _ 54 rfl rfl (by kernel_rfl)
              unfold OpTo
              go_simp
              refine (ConcatN_any g9 6 6 S9 W h6.symm hsl (by rw [hj, body_len]; omega) (by rw [h6]; decide)).mono ?_
              rw [hj]
              rintro e wx ⟨A', c', rfl, f, g, ho', hb⟩
              exact ⟨_, rfl, hb, A', c', rfl, f, g, ho'.lower hInv.size⟩
            · cases (show some _ = some o from ho)
              obtain ⟨A9, c9, e55, f55, g55, h55⟩ := hdep 19 _ 55 rfl rfl (by kernel_rfl)
              unfold OpTo
              go_simp
              exact ⟨Below.refl _ _, A9, c9, rfl, f55, g55, h55⟩
            · cases (show some _ = some o from ho)
              unfold OpTo
              go_simp
              exact ⟨Below.refl _ _, rfl⟩
            · simp at ho
          · intro A W hInv hfree hsz hdf hall
            obtain ⟨A9, c9, e2, f2, g2, h2⟩ := hall 20 _ rfl
            have e2' : A.tmps.getD 2 undef = .slice A9 (bodyF ver sys hold id []).length c9 := e2
            have e3' : A.tmps.getD 3 undef = .int .i64 0 := hall 21 _ rfl
            have q2 := e2'
            rw [Array.getD_eq_getD_getElem?] at q2
            have q3 := e3'
            rw [Array.getD_eq_getD_getElem?] at q3
            go_wp2
            exact bodyPost_ret (v := .tuple #[.slice A9 (bodyF ver sys hold id []).length c9, .int .i64 0]) (by simp [results, Try.results9, go_sem, q2, q3]) (hdf.trans rfl) ⟨HB3.out.trans (hInv.mono HB3.out.size), .inr ⟨A9, c9, _, by rw [HN.out, HP.out], rfl, f2, g2, h2.lower HB3.out.size⟩⟩
        · have hp : 0 < cs.length := List.length_pos_iff.2 hcs
          have hpI : (0 : Int) < (cs.length : Int) := by omega
          have HP := Lib.hid (show parF cs = partL 2 cs from if_neg hcs)
          have QP := Lib.hid (part_any 2 A1 cs.length c1 cs rfl w3 HC3.out.bytes (by have := HC.out.1; omega))
          clear hcs hp
          go_wp2_with fail
          refine QP.out.mono ?_
          rintro e w4 ⟨A4, c4, rfl, f4, g4, ho4, hb4⟩
          have HB4 := Lib.hid (HB3.out.trans (hb4.mono HB3.out.size))
          have HO4 := Lib.hid (HO3.out.below hb4 HO3.out.lt)
          have hpb : Bytes w4 A4 (partL 2 cs) := ho4.bytes
          have hpl : (partL 2 cs).length ≤ 1000000 := by have := HC.out.1; simp [partL]; omega
          have HPP := Lib.hid (And.intro hpb hpl)
          clear ho4 hb4 f4 g4 hpb hpl
          go_wp2_with fail
          obtain ⟨hpb, hpl⟩ := HPP.out
          refine region_flow (by kernel_rfl) (PD w.heap.size w4.heap.size ver sys hold id (.slice A4 (partL 2 cs).length c4) (partL 2 cs)) (fun W W' => Below W.heap.size W W') (fun W => Below w4.heap.size w4 W) PD.keep (fun W W' h k => h.trans (k.mono h.size)) (by kernel_rfl) ((Below.refl _ _).drew) ?_ ?_
          · intro i o ho A W hInv hfree hdep
            rcases i with _ | _ | _ | _ | _ | _ | _ | _ | _ | _ | _ | _ | _ | _ | _ | _ | _ | _ | _ | _ | _ | _ | i
            · cases (show some _ = some o from ho)
              have e1 : A.tmps.getD 1 undef = .pointer (some ⟨w.heap.size, 0, none⟩) := hfree 1 (by kernel_rfl)
              unfold OpTo
              go_simp
              exact ⟨Below.refl _ _, rfl⟩
            · cases (show some _ = some o from ho)
              have e36 : A.tmps.getD 36 undef = .pointer (some ⟨w.heap.size, 0, none⟩) := hdep 0 _ 36 rfl rfl (by kernel_rfl)
              have cL : W.cell? ⟨w.heap.size, 0, none⟩ = some (.int .i64 ver) := (HO4.out.below hInv HO4.out.lt).cell 0
              unfold OpTo
              go_simp
              exact ⟨Below.refl _ _, rfl⟩
            · cases (show some _ = some o from ho)
              have e37 : A.tmps.getD 37 undef = .int .i64 ver := hdep 1 _ 37 rfl rfl (by kernel_rfl)
              unfold OpTo
              go_simp
              exact ⟨Below.refl _ _, rfl⟩
            · cases (show some _ = some o from ho)
              have e38 : A.tmps.getD 38 undef = .int .u8 (IntKind.u8.wrap ver) := hdep 2 _ 38 rfl rfl (by kernel_rfl)
              have q38 := e38
              rw [Array.getD_eq_getD_getElem?] at q38
              unfold OpTo
              go_simp
              exact ⟨(Below.refl _ _).alloc (Nat.le_refl _) _, _, 1, rfl, Nat.le_refl _, by unfold maxLen; omega, (own_one8 W _ ver).lower hInv.size⟩
            · cases (show some _ = some o from ho)
              have e1 : A.tmps.getD 1 undef = .pointer (some ⟨w.heap.size, 0, none⟩) := hfree 1 (by kernel_rfl)
              unfold OpTo
              go_simp
              exact ⟨Below.refl _ _, rfl⟩
            · cases (show some _ = some o from ho)
              have e40 : A.tmps.getD 40 undef = .pointer (some ⟨w.heap.size, 1, none⟩) := hdep 4 _ 40 rfl rfl (by kernel_rfl)
              have cL : W.cell? ⟨w.heap.size, 1, none⟩ = some (.int .i64 sys) := (HO4.out.below hInv HO4.out.lt).cell 1
              unfold OpTo
              go_simp
              exact ⟨Below.refl _ _, rfl⟩
            · cases (show some _ = some o from ho)
              have e41 : A.tmps.getD 41 undef = .int .i64 sys := hdep 5 _ 41 rfl rfl (by kernel_rfl)
              unfold OpTo
              go_simp
              refine (Put16_any none 0 0 [] rfl sys W (by simp) (Bytes.nil _ _) HI.out.1.1 HI.out.1.2).mono ?_
              rintro e wx ⟨A', c', rfl, f, g, ho', hb⟩
              exact ⟨_, rfl, hb, A', c', rfl, f, g, ho'.lower hInv.size⟩
            · cases (show some _ = some o from ho)
              have e1 : A.tmps.getD 1 undef = .pointer (some ⟨w.heap.size, 0, none⟩) := hfree 1 (by kernel_rfl)
              unfold OpTo
              go_simp
              exact ⟨Below.refl _ _, rfl⟩
            · cases (show some _ = some o from ho)
              have e43 : A.tmps.getD 43 undef = .pointer (some ⟨w.heap.size, 2, none⟩) := hdep 7 _ 43 rfl rfl (by kernel_rfl)
              have cL : W.cell? ⟨w.heap.size, 2, none⟩ = some (.int .i64 hold) := (HO4.out.below hInv HO4.out.lt).cell 2
              unfold OpTo
              go_simp
              exact ⟨Below.refl _ _, rfl⟩
            · cases (show some _ = some o from ho)
              have e44 : A.tmps.getD 44 undef = .int .i64 hold := hdep 8 _ 44 rfl rfl (by kernel_rfl)
              unfold OpTo
              go_simp
              refine (Put16_any none 0 0 [] rfl hold W (by simp) (Bytes.nil _ _) HI.out.2.1.1 HI.out.2.1.2).mono ?_
              rintro e wx ⟨A', c', rfl, f, g, ho', hb⟩
              exact ⟨_, rfl, hb, A', c', rfl, f, g, ho'.lower hInv.size⟩
            · cases (show some _ = some o from ho)
              have e1 : A.tmps.getD 1 undef = .pointer (some ⟨w.heap.size, 0, none⟩) := hfree 1 (by kernel_rfl)
              unfold OpTo
              go_simp
              exact ⟨Below.refl _ _, rfl⟩
            · cases (show some _ = some o from ho)
              have e46 : A.tmps.getD 46 undef = .pointer (some ⟨w.heap.size, 3, none⟩) := hdep 10 _ 46 rfl rfl (by kernel_rfl)
              have cL : W.cell? ⟨w.heap.size, 3, none⟩ = some (.int .u32 id) := (HO4.out.below hInv HO4.out.lt).cell 3
              unfold OpTo
              go_simp
              exact ⟨Below.refl _ _, rfl⟩
            · cases (show some _ = some o from ho)
              have e47 : A.tmps.getD 47 undef = .int .u32 id := hdep 11 _ 47 rfl rfl (by kernel_rfl)
              unfold OpTo
              go_simp
              refine (Put32_any none 0 0 [] rfl id W (by simp) (Bytes.nil _ _) HI.out.2.2.1 HI.out.2.2.2).mono ?_
              rintro e wx ⟨A', c', rfl, f, g, ho', hb⟩
              exact ⟨_, rfl, hb, A', c', rfl, f, g, ho'.lower hInv.size⟩
            · cases (show some _ = some o from ho)
              have e6 : A.tmps.getD 6 undef = .slice A4 (partL 2 cs).length c4 := hfree 6 (by kernel_rfl)
              unfold OpTo
              go_simp
              exact ⟨Below.refl _ _, rfl⟩
            · cases (show some _ = some o from ho)
              have e49 : A.tmps.getD 49 undef = .slice A4 (partL 2 cs).length c4 := hdep 13 _ 49 rfl rfl (by kernel_rfl)
              unfold OpTo
              go_simp
              exact ⟨Below.refl _ _, rfl⟩
            · cases (show some _ = some o from ho)
              have e50 : A.tmps.getD 50 undef = .int .i64 (((partL 2 cs) : List UInt8).length : Int) := hdep 14 _ 50 rfl rfl (by kernel_rfl)
              unfold OpTo
              go_simp
              exact ⟨Below.refl _ _, rfl⟩
            · cases (show some _ = some o from ho)
              have e51 : A.tmps.getD 51 undef = .int .u8 (IntKind.u8.wrap (((partL 2 cs) : List UInt8).length : Int)) := hdep 15 _ 51 rfl rfl (by kernel_rfl)
              have q51 := e51
              rw [Array.getD_eq_getD_getElem?] at q51
              unfold OpTo
              go_simp
              exact ⟨(Below.refl _ _).alloc (Nat.le_refl _) _, _, 1, rfl, Nat.le_refl _, by unfold maxLen; omega, (own_one8 W _ (((partL 2 cs) : List UInt8).length : Int)).lower hInv.size⟩
            · cases (show some _ = some o from ho)
              have e6 : A.tmps.getD 6 undef = .slice A4 (partL 2 cs).length c4 := hfree 6 (by kernel_rfl)
              unfold OpTo
              go_simp
              exact ⟨Below.refl _ _, rfl⟩
            · cases (show some _ = some o from ho)
              obtain ⟨A9, c9, e39, f39, g39, h39⟩ := hdep 3 _ 39 rfl rfl (by kernel_rfl)
              have q39 := e39
              rw [Array.getD_eq_getD_getElem?] at q39
              obtain ⟨B9, d9, e42, f42, g42, h42⟩ := hdep 6 _ 42 rfl rfl (by kernel_rfl)
              have q42 := e42
              rw [Array.getD_eq_getD_getElem?] at q42
              obtain ⟨C9, k9, e45, f45, g45, h45⟩ := hdep 9 _ 45 rfl rfl (by kernel_rfl)
              have q45 := e45
              rw [Array.getD_eq_getD_getElem?] at q45
              obtain ⟨D9, l9, e48, f48, g48, h48⟩ := hdep 12 _ 48 rfl rfl (by kernel_rfl)
              have q48 := e48
              rw [Array.getD_eq_getD_getElem?] at q48
              obtain ⟨E9, m9, e52, f52, g52, h52⟩ := hdep 16 _ 52 rfl rfl (by kernel_rfl)
              have q52 := e52
              rw [Array.getD_eq_getD_getElem?] at q52
              have e53 : A.tmps.getD 53 undef = .slice A4 (partL 2 cs).length c4 := hdep 17 _ 53 rfl rfl (by kernel_rfl)
              have q53 := e53
              rw [Array.getD_eq_getD_getElem?] at q53
              unfold OpTo
              go_simp
              refine ⟨(Below.refl _ _).alloc (Nat.le_refl _) _, W.heap.size, [(A9, c9, [byteI ver]), (B9, d9, be16 sys), (C9, k9, be16 hold), (D9, l9, be32 id), (E9, m9, [byteI (((partL 2 cs) : List UInt8).length : Int)]), (A4, c4, (partL 2 cs))], rfl, rfl, sls_of_blk (Blk.new W _ _) ?_, rfl⟩
              intro x hx
              simp only [List.mem_cons, List.not_mem_nil, or_false] at hx
              rcases hx with rfl | rfl | rfl | rfl | rfl | rfl
              · exact h39.bytes.alloc _
              · exact h42.bytes.alloc _
              · exact h45.bytes.alloc _
              · exact h48.bytes.alloc _
              · exact h52.bytes.alloc _
              · exact (hpb.below hInv).alloc _
            · cases (show some _ = some o from ho)
              obtain ⟨g9, S9, e54, h6, hsl, hj⟩ := hdep 18 _ 54 rfl rfl (by kernel_rfl)
              unfold OpTo
              go_simp
              refine (ConcatN_any g9 6 6 S9 W h6.symm hsl (by rw [hj, body_len]; omega) (by rw [h6]; decide)).mono ?_
              rw [hj]
              rintro e wx ⟨A', c', rfl, f, g, ho', hb⟩
              exact ⟨_, rfl, hb, A', c', rfl, f, g, ho'.lower hInv.size⟩
            · cases (show some _ = some o from ho)
              obtain ⟨A9, c9, e55, f55, g55, h55⟩ := hdep 19 _ 55 rfl rfl (by kernel_rfl)
              unfold OpTo
              go_simp
              exact ⟨Below.refl _ _, A9, c9, rfl, f55, g55, h55⟩
            · cases (show some _ = some o from ho)
              unfold OpTo
              go_simp
              exact ⟨Below.refl _ _, rfl⟩
            · simp at ho
          · intro A W hInv hfree hsz hdf hall
            obtain ⟨A9, c9, e2, f2, g2, h2⟩ := hall 20 _ rfl
            have e2' : A.tmps.getD 2 undef = .slice A9 (bodyF ver sys hold id (partL 2 cs)).length c9 := e2
            have e3' : A.tmps.getD 3 undef = .int .i64 0 := hall 21 _ rfl
            have q2 := e2'
            rw [Array.getD_eq_getD_getElem?] at q2
            have q3 := e3'
            rw [Array.getD_eq_getD_getElem?] at q3
            go_wp2
            exact bodyPost_ret (v := .tuple #[.slice A9 (bodyF ver sys hold id (partL 2 cs)).length c9, .int .i64 0]) (by simp [results, Try.results9, go_sem, q2, q3]) (hdf.trans rfl) ⟨HB4.out.trans (hInv.mono HB4.out.size), .inr ⟨A9, c9, _, by rw [HN.out, HP.out], rfl, f2, g2, h2.lower HB4.out.size⟩⟩
end Go.Proofs.Ytpdnpphkkobhgaa

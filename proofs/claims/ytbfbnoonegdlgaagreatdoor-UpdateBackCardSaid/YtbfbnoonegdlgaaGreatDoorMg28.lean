/-
  Texts of this seat, put together: Keep4, StepU4, Back4W, BackK5.
-/
import Derived.Test.YtbfbnoonegdlgaaGreatDoorSayC4Mg
import Derived.Test.YtbfbnoonegdlgaaGreatDoorReadB4Mg
import Derived.Test.YtbfbnoonegdlgaaGreatDoorMg21
import Derived.Test.YtbfbnoonegdlgaaGreatDoorMg8
import Derived.Test.YtbfbnoonegdlgaaGreatDoorRefSame4Mg
import Derived.Test.YtbfbnoonegdlgaaGreatDoorRefRight4Mg
import Derived.Test.YtbfbnoonegdlgaaGreatDoorMg15
import Derived.Test.YtbfbnoonegdlgaaGreatDoorMg25
/-
  An attribute that is not known here is taken in: it comes behind all that are there.
-/
namespace Go.Proofs.YtbfbnoonegdlgaaGreatDoor
set_option linter.unusedVariables false
set_option linter.unusedSimpArgs false
open Go.RowKit

theorem isRaw : IsRow Tryz.prog 26 77 (.agg #[.int .i64 0, .int .i64 0, .slice none 0 0]) 3 40 := ⟨Tryz.underlying26, by kernel_rfl, rfl, by decide, by decide⟩
theorem isNaN_int (x : Int) (w : World) : Calls Tryz.prog 135 #[.int .i64 x] w fun e w' => e = .returned (.bool false) ∧ w' = w := by
  go_enter Tryz.func135, Tryz.ntmps135
  go_wp2_with fail
  go_ret
  exact ⟨rfl, rfl⟩
theorem Compare_less (x y : Int) (h : x < y) (w : World) : Calls Tryz.prog 125 #[.int .i64 x, .int .i64 y] w fun e w' => e = .returned (.int .i64 (-1)) ∧ w' = w := by
  go_enter Tryz.func125, Tryz.ntmps125
  go_wp2_with (go_at_call 135; refine (isNaN_int _ _).mono ?_; rintro e wx ⟨rfl, rfl⟩)
  go_ret
  exact ⟨rfl, rfl⟩
theorem keepCmp_less (f t : Int) (A : Option Addr) (n c : Nat) (k : Int) (h : t < k) (w : World) :
    Calls Tryz.prog 124 #[.agg #[.int .i64 f, .int .i64 t, .slice A n c], .int .i64 k] w fun e w' => e = .returned (.int .i64 (-1)) ∧ Below w.heap.size w w' := by
  have Q := Lib.hid (Compare_less t k h)
  clear h
  go_enter Tryz.func124, Tryz.ntmps124
  go_wp2_with (go_at_call 125; refine (Q.out _).mono ?_; rintro e wx ⟨rfl, rfl⟩)
  go_ret
  exact ⟨rfl, (Below.refl _ _).alloc (Nat.le_refl _) _⟩
set_option maxRecDepth 100000 in
set_option maxHeartbeats 6400000 in
/-- All that are there come ahead of it. -/
theorem SearchEnd_any (A : Option Addr) (c : Nat) (L : List Rw) (k : Int) (w : World) (h : RwIn w w.heap.size A L) (hc : L.length ≤ c) (hl : L.length ≤ 1000) (hk : ∀ s ∈ L, s.ty < k) :
    Calls Tryz.prog 123 #[.slice A L.length c, .int .i64 k, .func (.func 124) #[] #[]] w fun e w' => e = .returned (.tuple #[.int .i64 (L.length : Int), .bool false]) ∧ Below w.heap.size w w' := by
  have HIN := Lib.hid h; have HK := Lib.hid hk
  clear h hk
  go_enter Tryz.func123, Tryz.ntmps123
  go_wp2_with fail
  go_loopw [9, 10] (fun vi vj wr => ∃ i : Nat, i ≤ L.length ∧ vi = .int .i64 (i : Int) ∧ vj = .int .i64 (L.length : Int) ∧ Below w.heap.size w wr) (fun i _ _ => L.length - (intOf i).toNat)
  case atStart => exact ⟨0, Nat.zero_le _, rfl, rfl, Below.refl _ _⟩
  case round =>
    obtain ⟨i, hi, rfl, rfl, hb⟩ := hrel
    have HB := Lib.hid hb
    clear hb
    by_cases hlt : i < L.length
    · have hi1 : (i : Int) < (L.length : Int) := by omega
      have hm : (i + L.length) / 2 < L.length := by omega
      obtain ⟨y, hy⟩ : ∃ y, L[(i + L.length) / 2]? = some y := ⟨_, List.getElem?_eq_getElem hm⟩
      obtain ⟨b, off, rfl, _, c0, c1, c2, _⟩ := (HIN.out.below HB.out (Nat.le_refl _)).at hy
      have Q := Lib.hid (keepCmp_less y.flags y.ty y.adr y.data.length y.cap k (HK.out y (List.mem_of_getElem? hy)))
      clear hy
      go_wp2_with fail
      refine (Q.out _).mono ?_
      rintro e wx ⟨rfl, hbx⟩
      go_wp2_with fail
      have HBX := Lib.hid (HB.out.trans (hbx.mono HB.out.size))
      clear hbx
      go_roundw
      case rel => exact ⟨(i + L.length) / 2 + 1, by omega, by go_num, rfl, HBX.out⟩
      case measure => simp only [intOf]; omega
    · have hi1 : ¬ (i : Int) < (L.length : Int) := by omega
      obtain rfl : i = L.length := by omega
      go_wp2_with fail
      go_ret2
      exact ⟨rfl, HB.out⟩
set_option maxRecDepth 100000 in
set_option maxHeartbeats 3200000 in
theorem InsertEnd_any (base : Nat) (A : Option Addr) (n c : Nat) (xs cs : List Value) (wr : World) (hown : wr.ownsRow base 77 3 (.slice A n c) n xs) (hn : n ≤ 1000) (hnc : n ≤ c) (hcm : c ≤ maxLen) (hl : cs.length = 3) (h1 : ∀ u ∈ cs, u.oneCell' = true) (hb : base ≤ wr.heap.size) :
    Calls Tryz.prog 126 #[.slice A n c, .int .i64 (n : Int), .slice (some ⟨wr.heap.size, 0, none⟩) 1 1] (wr.alloc (.cells cs.toArray 77)) fun e w' => ∃ v', e = .returned v' ∧ w'.ownsRow base 77 3 v' (n + 1) (xs ++ cs) ∧ wr.grownBy w' (Value.slice A n c).ownBlock := by
  have HO := Lib.hid hown; have HL := Lib.hid hl; have H1 := Lib.hid h1
  have hn2 : 0 ≤ (n : Int) := by omega
  obtain ⟨W0, hW0⟩ : ∃ W0, W0 = wr.alloc (.cells cs.toArray 77) := ⟨_, rfl⟩
  have HW := Lib.hid hW0
  rw [← hW0]
  have hn1 : (n : Int) ≤ (c : Int) := by omega
  have hm1 : c ≤ 9223372036854775807 := by unfold maxLen at hcm; omega
  clear hown hl h1 hcm hW0
  by_cases hcn : c = n
  · subst hcn
    go_enter Tryz.func126, Tryz.ntmps126
    go_wp2_with (at_builtin; refine wpList_app_one' isRaw rfl (.tmp 23) (.tmp 24) rfl base _ _ _ rfl wr cs HW.out HO.out rfl HL.out H1.out (by omega) hb ?_)
    intro v' w' ho hg
    have HO2 := Lib.hid ho; have HG2 := Lib.hid hg
    clear ho hg
    go_wp2_with fail
    go_ret
    exact ⟨v', rfl, HO2.out, HG2.out⟩
  · go_enter Tryz.func126, Tryz.ntmps126
    go_wp2_with (at_builtin; refine wpList_app_one' isRaw rfl (.tmp 23) (.tmp 24) rfl base _ _ _ rfl wr cs HW.out HO.out rfl HL.out H1.out (by omega) hb ?_)
    intro v' w' ho hg
    have HO2 := Lib.hid ho; have HG2 := Lib.hid hg
    clear ho hg
    go_wp2_with fail
    go_ret
    exact ⟨v', rfl, HO2.out, HG2.out⟩
end Go.Proofs.YtbfbnoonegdlgaaGreatDoor

/-
  One attribute more is taken in: kinds 7, 8, 18, and those that are not known here; so all kinds, of wide numbers.
-/
namespace Go.Proofs.YtbfbnoonegdlgaaGreatDoor
set_option linter.unusedVariables false
set_option linter.unusedSimpArgs false
open Go.RowKit

set_option maxHeartbeats 1600000 in
theorem take7_step (B gx f B' : Nat) (S T : Rs) (A A2 : Option Addr) (c n2 c2 : Nat) (l r : List UInt8) (b : Bool) (W : World) (h : RdI B gx true S W) (ht : TabK W) (ho : Own W B' 5 (.slice A l.length c) l) (hc : l.length ≤ c) (hm : c ≤ maxLen) (hl : l.length ≤ 1000000) (hs : stepF true S ⟨f, 7, l, r, b⟩ = some T) :
    Calls Tryz.prog 62 #[.pointer (some ⟨gx, 0, none⟩), .agg #[.int .i64 (f : Int), .int .i64 (7 : Int), .slice A l.length c, .slice A2 n2 c2]] W (TakePost4 B gx true S T W) := by
  obtain ⟨hk, ⟨hf, hn⟩, hT⟩ := inv7 hs
  subst hT
  have hn8 : l.length = 8 := by simpa using hn
  obtain ⟨pv, cv, rv, kv, wv, av, h1, h2⟩ := h
  refine take_known gx true _ f 192 7 192 6 8 0 A A2 c n2 c2 l W _ h1 ht rfl (by decide) rfl hf (fun W1 => by rw [hn8]; exact fits_wide _ _ 6 _ 8 W1 rfl (by decide)) (fun W2 W3 q kr hg => rdI_fault q kr (by have := h1.lt; omega) hg) (fun W1 hb hz => ?_)
  refine (say7_any gx B' _ _ _ _ _ _ _ _ _ _ _ _ _ _ (f : Int) A A2 c n2 c2 l W1 (h1.below hb h1.lt) (Own.below ho hb) hc hm hn8).mono fun e W2 hp => ?_
  obtain ⟨rfl, hb2, hg2⟩ := hp
  have h3 := rows_keep (h2.below hb) (h1.below hb h1.lt) hg2
  refine ⟨rfl, hg2, pv, cv, rv, kv, wv, av, ?_, ⟨h3.path, h3.comms, h3.raws, h3.kinds, h3.wpath, h3.aggr, h3.cnil⟩⟩
  rw [show l.length - 4 = 4 by omega]
  exact hb2
set_option maxHeartbeats 1600000 in
theorem take18_step (B gx f B' : Nat) (wide : Bool) (S T : Rs) (A A2 : Option Addr) (c n2 c2 : Nat) (l r : List UInt8) (b : Bool) (W : World) (h : RdI B gx wide S W) (ht : TabK W) (ho : Own W B' 5 (.slice A l.length c) l) (hc : l.length ≤ c) (hm : c ≤ maxLen) (hl : l.length ≤ 1000000) (hs : stepF wide S ⟨f, 18, l, r, b⟩ = some T) :
    Calls Tryz.prog 62 #[.pointer (some ⟨gx, 0, none⟩), .agg #[.int .i64 (f : Int), .int .i64 (18 : Int), .slice A l.length c, .slice A2 n2 c2]] W (TakePost4 B gx wide S T W) := by
  obtain ⟨hk, hf, hT⟩ := inv18 hs
  subst hT
  obtain ⟨pv, cv, rv, kv, wv, av, h1, h2⟩ := h
  refine take_known gx wide _ f 192 18 192 0 0 1 A A2 c n2 c2 l W _ h1 ht rfl (by decide) rfl hf (fun W1 => fits_unit _ _ _ _ 1 l.length wide W1 (by decide) (by decide) (by simp) hl) (fun W2 W3 q kr hg => rdI_fault q kr (by have := h1.lt; omega) hg) (fun W1 hb hz => ?_)
  refine (say18_any gx wide _ _ _ _ _ _ _ _ _ _ _ _ _ _ (f : Int) A A2 c n2 c2 l W1 (h1.below hb h1.lt) (Own.bytes (Own.below ho hb)) hc hm).mono fun e W2 hp => ?_
  obtain ⟨rfl, hb2, hg2⟩ := hp
  have h3 := rows_keep (h2.below hb) (h1.below hb h1.lt) hg2
  have ho3 := row_keep (Own.below ho hb) (h1.below hb h1.lt) (by decide) hg2
  exact ⟨rfl, hg2, pv, cv, rv, kv, wv, _, hb2, ⟨h3.path, h3.comms, h3.raws, h3.kinds, h3.wpath, ⟨B', ho3⟩, h3.cnil⟩⟩
set_option maxHeartbeats 1600000 in
theorem take8_step (B gx f : Nat) (wide : Bool) (S T : Rs) (A A2 : Option Addr) (c n2 c2 : Nat) (l r : List UInt8) (b : Bool) (W : World) (h : RdI B gx wide S W) (ht : TabK W) (hy : Bytes W A l) (hc : l.length ≤ c) (hm : c ≤ maxLen) (hl : l.length ≤ 1000000) (hs : stepF wide S ⟨f, 8, l, r, b⟩ = some T) (h0 : S.comms = []) :
    Calls Tryz.prog 62 #[.pointer (some ⟨gx, 0, none⟩), .agg #[.int .i64 (f : Int), .int .i64 (8 : Int), .slice A l.length c, .slice A2 n2 c2]] W (TakePost4 B gx wide S T W) := by
  obtain ⟨hk, ⟨hf, hn4, hn⟩, hT⟩ := inv8 hs
  subst hT
  obtain ⟨pv, cv, rv, kv, wv, av, h1, h2⟩ := h
  obtain rfl := h2.cnil h0
  have hmod : ((l.length : Int) % 4 == 0) = true := by
    have : (l.length : Int) % 4 = 0 := by omega
    simpa using this
  refine take_known gx wide _ f 192 8 192 0 0 4 A A2 c n2 c2 l W _ h1 ht rfl (by decide) rfl hf (fun W1 => fits_unit _ _ _ _ 4 l.length wide W1 (by decide) (by decide) hmod hl) (fun W2 W3 q kr hg => rdI_fault q kr (by have := h1.lt; omega) hg) (fun W1 hb hz => ?_)
  refine (say8_any gx wide _ _ _ _ _ _ _ _ _ _ _ _ _ (f : Int) A A2 c n2 c2 l W1 (h1.below hb h1.lt) (hy.below hb) hc hm ⟨hn4, hn⟩).mono fun e W2 hp => ?_
  obtain ⟨v, ⟨rfl, hb2, hg2⟩, ho, hnil⟩ := hp
  have h3 := rows_keep (h2.below hb) (h1.below hb h1.lt) hg2
  refine ⟨rfl, hg2, pv, v, rv, kv, wv, av, hb2, ⟨h3.path, ⟨W1.heap.size + 3, ?_⟩, h3.raws, h3.kinds, h3.wpath, h3.aggr, fun e => hnil ?_⟩⟩
  · show Own32 W2 (W1.heap.size + 3) v (S.comms ++ nums4 l)
    rw [h0, List.nil_append]
    exact ho
  · have e' : S.comms ++ nums4 l = [] := e
    rw [h0, List.nil_append] at e'
    exact e'
set_option maxRecDepth 100000 in
set_option maxHeartbeats 6400000 in
theorem keepU_any (B gx f k : Nat) (wide : Bool) (S : Rs) (A A2 : Option Addr) (c n2 c2 B' : Nat) (l : List UInt8) (W : World) (hB : B ≤ gx) (hB2 : B ≤ W.heap.size) (h : RdI B gx wide S W) (ho : Own W B' 5 (.slice A l.length c) l) (hc : l.length ≤ c) (hm : c ≤ maxLen) (hf : flOk f 224 = true) (hl : l.length ≤ 64) (h8 : S.raws.length < 8) (hr : ∀ r ∈ S.raws, r.2.1 < (k : Int)) :
    Calls Tryz.prog 100 #[.pointer (some ⟨gx, 0, none⟩), .agg #[.int .i64 (f : Int), .int .i64 (k : Int), .slice A l.length c, .slice A2 n2 c2]] W (TakeAny B gx wide S { S with raws := S.raws ++ [(224, (k : Int), l)] } W) := by
  obtain ⟨pv, cv, rv, kv, wv, av, h1, h2⟩ := h
  obtain ⟨L, hro, hra⟩ := h2.raws
  obtain ⟨rA, rc, hrv, hr1, hr2⟩ := own_form hro.row
  subst hrv
  have hL8 : L.length < 8 := by rw [← hra, List.length_map] at h8; exact h8
  have hLk : ∀ s ∈ L, s.ty < (k : Int) := fun s hs => by
    have := hr s.abs (by rw [← hra]; exact List.mem_map_of_mem hs)
    exact this
  have hf2 : f = 224 ∨ f = 240 := by
    unfold flOk at hf
    simpa using hf
  obtain ⟨W0, hW0⟩ : ∃ W0, W0 = (W.alloc (.cells #[.int .i64 (f : Int), .int .i64 (k : Int), .slice A l.length c, .slice A2 n2 c2] 101)).alloc (.cells #[.int .i64 0, .int .i64 0, .slice none 0 0] 43) := ⟨_, rfl⟩
  have hb1 : Below W.heap.size W W0 := by rw [hW0]; exact ((Below.refl _ _).alloc (Nat.le_refl _) _).alloc (by simp) _
  have kp : Blk W0 W.heap.size 101 [.int .i64 (f : Int), .int .i64 (k : Int), .slice A l.length c, .slice A2 n2 c2] := by
    rw [hW0]
    exact (Blk.new W _ _).below ((Below.refl _ _).alloc (Nat.le_refl _) _) (by simp)
  have kf : Blk W0 (W.heap.size + 1) 43 [.int .i64 0, .int .i64 0, .slice none 0 0] := by
    have := Blk.new (W.alloc (.cells #[.int .i64 (f : Int), .int .i64 (k : Int), .slice A l.length c, .slice A2 n2 c2] 101)) 43 [.int .i64 0, .int .i64 0, .slice none 0 0]
    rw [hW0]
    simpa using this
  have hin : RwIn W0 W0.heap.size rA L := (RwIn.below (rw_own hro) hb1 (Nat.le_refl _)).lift hb1.size
  have QS := Lib.hid (SearchEnd_any rA rc L (k : Int) W0 hin hr1 (by omega) hLk)
  have kx0 := h1.below hb1 h1.lt
  have c11 : W0.cell? ⟨gx, 11, none⟩ = some (.slice rA L.length rc) := kx0.cell 11
  have p0 : W0.cell? ⟨W.heap.size, 0, none⟩ = some (.int .i64 (f : Int)) := kp.cell 0
  have p1 : W0.cell? ⟨W.heap.size, 1, none⟩ = some (.int .i64 (k : Int)) := kp.cell 1
  have p2 : W0.cell? ⟨W.heap.size, 2, none⟩ = some (.slice A l.length c) := kp.cell 2
  have b1 : bits .and .i64 (f : Int) 128 = 128 := by rcases hf2 with rfl | rfl <;> kernel_rfl
  have b2 : bits .and .i64 (f : Int) 64 = 64 := by rcases hf2 with rfl | rfl <;> kernel_rfl
  have hd1 : decide ((64 : Int) < (l.length : Int)) = false := decide_eq_false (by omega)
  have hl64 : ¬ (64 : Int) < (l.length : Int) := by omega
  have hL88 : ¬ (8 : Int) ≤ (L.length : Int) := by omega
  have hgx : gx < W.heap.size := h1.lt
  have HKP := Lib.hid kp; have HKF := Lib.hid kf; have HKX := Lib.hid kx0; have HB1 := Lib.hid hb1; have HW0 := Lib.hid hW0
  have HRO := Lib.hid hro; have HRA := Lib.hid hra; have HR := Lib.hid (And.intro hr1 hr2); have HL8 := Lib.hid hL8
  have HRW := Lib.hid h2; have HOW := Lib.hid ho; have HBB := Lib.hid (And.intro hB hB2); have HGX := Lib.hid hgx; have HCM := Lib.hid (And.intro hc hm)
  clear hin kx0 kp kf hb1 hW0 hro hra hr1 hr2 hL8 hLk h1 h2 ho hB hB2 hc hm hf hl h8 hr hf2 hgx
  go_enter Tryz.func100, Tryz.ntmps100
  go_wp2_with (rw [← HW0.out])
  refine QS.out.mono ?_
  rintro e w1 ⟨rfl, hb2⟩
  have hb01 := HB1.out.trans (hb2.mono HB1.out.size)
  have kp1 := HKP.out.below hb2 HKP.out.lt
  have q1 : w1.cell? ⟨W.heap.size, 1, none⟩ = some (.int .i64 (k : Int)) := kp1.cell 1
  have q2 : w1.cell? ⟨W.heap.size, 2, none⟩ = some (.slice A l.length c) := kp1.cell 2
  have row1 := row_below HRO.out.row hb01
  have QI := Lib.hid (InsertEnd_any B rA L.length rc (flatR L) [.int .i64 224, .int .i64 (k : Int), .slice A l.length c] w1 row1 (by have := HL8.out; omega) HR.out.1 HR.out.2 rfl (by intro u hu; simp at hu; rcases hu with rfl | rfl | rfl <;> rfl) (Nat.le_trans HBB.out.2 hb01.size))
  have HB01 := Lib.hid hb01; have HROW := Lib.hid row1
  have HKX1 := Lib.hid (HKX.out.below hb2 HKX.out.lt); have HKF1 := Lib.hid (HKF.out.below hb2 HKF.out.lt)
  clear hb01 hb2 kp1 row1 c11 p0 p1 p2 QS
  go_wp2_with fail
  refine QI.out.mono ?_
  rintro e w2 ⟨v2, rfl, ho2, hg2⟩
  obtain ⟨A6, n6, rfl, _, _⟩ := own_form ho2
  have kx2 := blk_row HKX1.out HROW.out (by decide) hg2
  have kf2 := blk_row HKF1.out HROW.out (by decide) hg2
  have x11 : w2.cell? ⟨gx, 11, none⟩ = some (.slice rA L.length rc) := kx2.cell 11
  have y11 : w2.frozen? ⟨gx, 11, none⟩ = false := kx2.free 11
  have hs11 : w2.grownBy (w2.setCell ⟨gx, 11, none⟩ (.slice A6 (L.length + 1) n6)) (some gx) := grown_setCell (grown_refl _ _) _ _
  have hne : W.heap.size + 1 ≠ gx := by have := HGX.out; omega
  have kf3 := kf2.grown hs11 hne
  have kx3 : Blk (w2.setCell ⟨gx, 11, none⟩ (.slice A6 (L.length + 1) n6)) gx 99 (rdRow wide S pv cv (.slice A6 (L.length + 1) n6) kv wv av) := kx2.set 11 (.slice A6 (L.length + 1) n6)
  have c3 := cells3 kf3
  have f3 := free3 kf3
  have r3 := cells3 (kf3.set3 (.int .i64 0) (.int .i64 0) (.slice none 0 0))
  have hs3 := grown_set3 (w2.setCell ⟨gx, 11, none⟩ (.slice A6 (L.length + 1) n6)) (W.heap.size + 1) (.int .i64 0) (.int .i64 0) (.slice none 0 0)
  have kx4 := kx3.grown hs3 (Ne.symm hne)
  have rw1 := HRW.out.below HB01.out
  have rows2 : RowsR B w2 { S with raws := S.raws ++ [(224, (k : Int), l)] } pv cv (.slice A6 (L.length + 1) n6) kv wv av := by
    obtain ⟨g1, ⟨B2, g2⟩, _, g4, g5, ⟨B6, g6⟩, g7⟩ := rw1
    refine ⟨g1.beside HROW.out (by decide) (by decide) hg2, ⟨B2, row_beside g2 HROW.out (by decide) hg2⟩, ⟨L ++ [⟨224, (k : Int), A, c, l⟩], ⟨?_, fun s hs => ?_⟩, ?_⟩, row_beside g4 HROW.out (by decide) hg2, g5.beside HROW.out (by decide) (by decide) hg2, ⟨B6, row_beside g6 HROW.out (by decide) hg2⟩, g7⟩
    · rw [List.length_append, show flatR (L ++ [⟨224, (k : Int), A, c, l⟩]) = flatR L ++ [.int .i64 224, .int .i64 (k : Int), .slice A l.length c] by simp [flatR]]
      exact ho2
    · rcases List.mem_append.1 hs with hs | hs
      · obtain ⟨⟨B9, q⟩, q'⟩ := HRO.out.each s hs
        exact ⟨⟨B9, row_beside (row_below q HB01.out) HROW.out (by decide) hg2⟩, q'⟩
      · obtain rfl := List.mem_singleton.1 hs
        exact ⟨⟨B', row_beside (row_below HOW.out HB01.out) HROW.out (by decide) hg2⟩, HCM.out⟩
    · rw [List.map_append, HRA.out]; rfl
  have rows4 := (rows_keep rows2 kx2 hs11).keep kf3 (by decide) (by decide) (by decide) (by decide) (by decide) hs3
  have HBE := Lib.hid (((((HB01.out.mono HBB.out.2).grown hg2 (Nat.le_trans HBB.out.2 HB01.out.size) (fun j hj => (World.ownsRow.lt HROW.out j hj).1)).grown hs11 (Nat.le_trans (Nat.le_trans HBB.out.2 HB01.out.size) hg2.size) (fun j hj => by cases hj; exact HBB.out.1)).grown hs3 (Nat.le_trans (Nat.le_trans (Nat.le_trans HBB.out.2 HB01.out.size) hg2.size) hs11.size) (fun j hj => by cases hj; have := HBB.out.2; omega)))
  have HKT := Lib.hid (show KeepT gx 77 W ((((w2.setCell ⟨gx, 11, none⟩ (.slice A6 (L.length + 1) n6)).setCell ⟨W.heap.size + 1, 0, none⟩ (.int .i64 0)).setCell ⟨W.heap.size + 1, 1, none⟩ (.int .i64 0)).setCell ⟨W.heap.size + 1, 2, none⟩ (.slice none 0 0)) from fun g T cs hg hT hk =>
    ((blk_row (hk.below HB01.out hk.lt) HROW.out (Ne.symm hT) hg2).grown hs11 hg).grown hs3 (by have := hk.lt; omega))
  have HX4 := Lib.hid kx4; have HR4 := Lib.hid rows4
  clear rw1 rows2 rows4 kx4 hs3 kf3 kx3 kx2 kf2 hs11 ho2 hg2 q1 q2 QI
  go_wp2_with fail
  refine bodyPost_ret (v := fault0) (by simp [results, Tryz.results100, go_sem, fault0, r3]) rfl ?_
  exact ⟨rfl, HBE.out, HKT.out, pv, cv, _, kv, wv, av, HX4.out, HR4.out⟩
set_option maxRecDepth 100000 in
set_option maxHeartbeats 6400000 in
theorem takeU_step (B gx f k B' : Nat) (wide : Bool) (S T : Rs) (A A2 : Option Addr) (c n2 c2 : Nat) (l r : List UInt8) (b : Bool) (W : World) (hB : B ≤ gx) (hB2 : B ≤ W.heap.size) (h : RdI B gx wide S W) (ht : TabK W) (ho : Own W B' 5 (.slice A l.length c) l) (hc : l.length ≤ c) (hm : c ≤ maxLen) (hn : (lookN (k : Int)).isNone = true) (hs : stepF wide S ⟨f, k, l, r, b⟩ = some T) :
    Calls Tryz.prog 62 #[.pointer (some ⟨gx, 0, none⟩), .agg #[.int .i64 (f : Int), .int .i64 (k : Int), .slice A l.length c, .slice A2 n2 c2]] W (TakeAny B gx wide S T W) := by
  obtain ⟨hk, ⟨_, hf, hl, h8, hr⟩, hT⟩ := invR hn hs
  subst hT
  obtain ⟨W0, hW0⟩ : ∃ W0, W0 = (W.alloc (.cells #[.int .i64 (f : Int), .int .i64 (k : Int), .slice A l.length c, .slice A2 n2 c2] 101)).alloc (.cells #[.int .i64 0, .int .i64 0, .slice none 0 0] 43) := ⟨_, rfl⟩
  have hb1 : Below W.heap.size W W0 := by rw [hW0]; exact ((Below.refl _ _).alloc (Nat.le_refl _) _).alloc (by simp) _
  have kp : Blk W0 W.heap.size 101 [.int .i64 (f : Int), .int .i64 (k : Int), .slice A l.length c, .slice A2 n2 c2] := by
    rw [hW0]
    exact (Blk.new W _ _).below ((Below.refl _ _).alloc (Nat.le_refl _) _) (by simp)
  have kf : Blk W0 (W.heap.size + 1) 43 [.int .i64 0, .int .i64 0, .slice none 0 0] := by
    have := Blk.new (W.alloc (.cells #[.int .i64 (f : Int), .int .i64 (k : Int), .slice A l.length c, .slice A2 n2 c2] 101)) 43 [.int .i64 0, .int .i64 0, .slice none 0 0]
    rw [hW0]
    simpa using this
  have QL := Lib.hid (lookOf_any (k : Int) W0 (ht.below hb1 ht.lt))
  rw [show lookN (k : Int) = none from by simpa using hn] at QL
  unfold retLook at QL
  have p1 : W0.cell? ⟨W.heap.size, 1, none⟩ = some (.int .i64 (k : Int)) := kp.cell 1
  have hgx : gx < W.heap.size := by obtain ⟨_, _, _, _, _, _, h1, _⟩ := h; exact h1.lt
  have HP := Lib.hid kp; have HF := Lib.hid kf; have HB1 := Lib.hid hb1; have HW0 := Lib.hid hW0; have HGX := Lib.hid hgx
  have HI := Lib.hid h; have HOW := Lib.hid ho; have HBB := Lib.hid (And.intro hB hB2)
  have QK := Lib.hid (fun (W1 : World) (hb : Below W.heap.size W W1) => keepU_any B gx f k wide S A A2 c n2 c2 B' l W1 hB (Nat.le_trans hB2 hb.size) (h.below hb) (Own.below ho hb) hc hm hf hl h8 hr)
  clear hb1 kp kf hW0 hgx h ho hB hB2 hc hm hf hl h8 hr ht hk hs hn
  go_enter Tryz.func62, Tryz.ntmps62
  go_wp2_with (rw [← HW0.out])
  refine QL.out.mono ?_
  rintro e w1 ⟨rfl, hb⟩
  have hb2 : Below W0.heap.size W0 (w1.alloc (.cells #[.int .i64 0, .int .i64 0, .int .i64 0, .int .i64 0, .int .i64 0] 121)) := hb.alloc hb.size _
  have kp1 := HP.out.below hb2 HP.out.lt
  have pp := cells4 kp1
  have HB2 := Lib.hid (HB1.out.trans (hb2.mono HB1.out.size)); have HF1 := Lib.hid (HF.out.below hb2 HF.out.lt)
  clear hb hb2 kp1 p1 QL
  go_wp2_with fail
  refine (QK.out _ HB2.out).mono ?_
  rintro e w4 ⟨rfl, hb4, hk4, hI4⟩
  have kf4 := hk4 _ _ _ (by have := HGX.out; omega) (by decide) HF1.out
  have c3 := cells3 kf4
  have f3 := free3 kf4
  have r3 := cells3 (kf4.set3 (.int .i64 0) (.int .i64 0) (.slice none 0 0))
  have hs3 := grown_set3 w4 (W.heap.size + 1) (.int .i64 0) (.int .i64 0) (.slice none 0 0)
  have HBE := Lib.hid (((HB2.out.mono HBB.out.2).trans hb4).grown hs3 (Nat.le_trans (Nat.le_trans HBB.out.2 HB2.out.size) hb4.size) (fun j hj => by cases hj; have := HBB.out.2; omega))
  have HKT := Lib.hid (show KeepT gx 77 W (((w4.setCell ⟨W.heap.size + 1, 0, none⟩ (.int .i64 0)).setCell ⟨W.heap.size + 1, 1, none⟩ (.int .i64 0)).setCell ⟨W.heap.size + 1, 2, none⟩ (.slice none 0 0)) from fun g T cs hg hT hk =>
    (hk4 g T cs hg hT (hk.below HB2.out hk.lt)).grown hs3 (by have := hk.lt; omega))
  have HIE := Lib.hid (rdI_fault hI4 kf4 (by have := HGX.out; omega) hs3)
  clear hb4 hk4 hI4 kf4 hs3 pp QK
  unfold fault0
  go_wp2_with fail
  refine bodyPost_ret (v := fault0) (by simp [results, Tryz.results62, go_sem, fault0, r3]) rfl ?_
  exact ⟨rfl, HBE.out, HKT.out, HIE.out⟩
/-- All kinds, of wide numbers. -/
theorem steps_wide (B : Nat) : Steps (fun _ => true) B true := by
  intro gx f k S T A A2 c n2 c2 B' v r b W _ hB hB2 hI ht ho hc hm hl hs h8
  have hy := ho.bytes
  by_cases hn : (lookN (k : Int)).isNone = true
  · exact takeU_step B gx f k B' true S T A A2 c n2 c2 v r b W hB hB2 hI ht ho hc hm hn hs
  · have hk : k = 1 ∨ k = 2 ∨ k = 3 ∨ k = 4 ∨ k = 5 ∨ k = 6 ∨ k = 7 ∨ k = 8 ∨ k = 17 ∨ k = 18 := by
      apply Decidable.byContradiction
      intro hno
      apply hn
      rw [look_none (k := (k : Int))]
      · rfl
      · intro i x hi hx e
        rcases (show i = 0 ∨ i = 1 ∨ i = 2 ∨ i = 3 ∨ i = 4 ∨ i = 5 ∨ i = 6 ∨ i = 7 ∨ i = 8 ∨ i = 9 by omega) with rfl | rfl | rfl | rfl | rfl | rfl | rfl | rfl | rfl | rfl <;> (simp [looksL] at hx; subst hx; simp at e; omega)
    rcases hk with rfl | rfl | rfl | rfl | rfl | rfl | rfl | rfl | rfl | rfl
    · exact (take1_step B gx f true S T A A2 c n2 c2 v r b W hI ht hy hc hm hl hs).mono fun e W' h => h.all hB hB2
    · exact (take2_step B gx f true S T A A2 c n2 c2 v r b W hI ht hy hc hm hl hs).mono fun e W' h => h.all hB hB2
    · exact (take3_step B gx f true S T A A2 c n2 c2 v r b W hI ht hy hc hm hl hs).mono fun e W' h => h.all hB hB2
    · exact (take4_step B gx f true S T A A2 c n2 c2 v r b W hI ht hy hc hm hl hs).mono fun e W' h => h.all hB hB2
    · exact (take5_step B gx f true S T A A2 c n2 c2 v r b W hI ht hy hc hm hl hs).mono fun e W' h => h.all hB hB2
    · exact (take6_step B gx f true S T A A2 c n2 c2 v r b W hI ht hy hc hm hl hs).mono fun e W' h => h.all hB hB2
    · exact (take7_step B gx f B' S T A A2 c n2 c2 v r b W hI ht ho hc hm hl hs).mono fun e W' h => h.all hB hB2
    · exact (take8_step B gx f true S T A A2 c n2 c2 v r b W hI ht hy hc hm hl hs (h8 rfl)).mono fun e W' h => h.all hB hB2
    · exact (take17_step B gx f true S T A A2 c n2 c2 v r b W hI ht hy hc hm hl hs).mono fun e W' h => h.all hB hB2
    · exact (take18_step B gx f B' true S T A A2 c n2 c2 v r b W hI ht ho hc hm hl hs).mono fun e W' h => h.all hB hB2
end Go.Proofs.YtbfbnoonegdlgaaGreatDoor

/-
  P4.4: right attributes whose next one may be, put wide, are read as they were: the walk.
-/
namespace Go.Proofs.YtbfbnoonegdlgaaGreatDoor
set_option linter.unusedVariables false
set_option linter.unusedSimpArgs false
open Go.RowKit

theorem okB_all {a : Av} (h : a.okB = true) : 0 ≤ a.org ∧ a.org ≤ 2 ∧ rightB a.path = true ∧ a.path.length ≤ 8 ∧ totN a.path ≤ 64 ∧ (-1 ≤ a.med ∧ a.med ≤ 4294967295) ∧ (-1 ≤ a.pref ∧ a.pref ≤ 4294967295) ∧ (a.has = false → a.aas = 0 ∧ a.aad = 0) ∧ a.comms.length ≤ 32 ∧ rawsF (-1) (a.raws.map Rw.abs) = true ∧ a.raws.length ≤ 8 := by
  have h0 := h
  unfold Av.okB at h0
  unfold Av.okB rightB saidB at h
  simp only [Bool.and_eq_true, decide_eq_true_eq] at h h0
  obtain ⟨⟨⟨⟨⟨⟨⟨h1, h2⟩, h3, _, h4⟩, h5, h6⟩, h7, h8⟩, hh⟩, h9⟩, h10, h11⟩ := h
  obtain ⟨⟨⟨⟨⟨⟨_, hr⟩, _⟩, _⟩, _⟩, _⟩, _⟩ := h0
  refine ⟨h1, h2, hr, h3, h4, ⟨h5, h6⟩, ⟨h7, h8⟩, fun e => ?_, h9, h10, h11⟩
  rw [e] at hh
  simpa using hh
theorem raws_small : ∀ (L : List Rw) (b : Int), rawsF b (L.map Rw.abs) = true → ∀ s ∈ L, s.data.length ≤ 64
  | [], _, _, s, hs => by cases hs
  | x :: L, b, h, s, hs => by
    simp only [List.map_cons, rawsF, rawOk, Rw.abs, Bool.and_eq_true, decide_eq_true_eq] at h
    obtain ⟨⟨_, h4⟩, h5⟩ := h
    rcases List.mem_cons.1 hs with rfl | hs
    · exact h4
    · exact raws_small L x.ty h5 s hs
theorem u32_wrap_of (n : Int) (h : -1 ≤ n ∧ n ≤ 4294967295) : ∃ m : Nat, IntKind.u32.wrap n = (m : Int) ∧ m < 4294967296 ∧ (0 ≤ n → n = (m : Int)) := by
  refine ⟨(IntKind.u32.wrap n).toNat, ?_, ?_, ?_⟩
  · rw [IntKind.wrap_u32]; omega
  · rw [IntKind.wrap_u32]; omega
  · rw [IntKind.wrap_u32]; omega
theorem putA_small (org next sa ad : Nat) (path : List Sg) (med pref : Int) (mm mp : Nat) (atomic has : Bool) (comms : List Nat) (raws : List Rw) (h3 : path.length ≤ 8) (h4 : totN path ≤ 64) (h5 : comms.length ≤ 32) (h6 : raws.length ≤ 8) (h7 : ∀ s ∈ raws, s.data.length ≤ 64) (wide : Bool) :
    (putA org next sa ad path med pref mm mp atomic has comms raws wide).length ≤ 100000 := by
  have p1 := putB_len wide path
  have p2 := putB_len true path
  have q1 := numsB_len true [next]
  have q2 := numsB_len true [mm]
  have q3 := numsB_len true [mp]
  have q4 := numsB_len true comms
  have q5 := aggrB_len wide sa ad
  have q6 := aggrB_len true sa ad
  have q7 := rawsB_len raws h7
  have o1 := oneB_len true 64 1 [UInt8.ofNat org]
  have o2 := oneB_len true 64 2 (putB wide path)
  have o3 := oneB_len true 64 3 (numsB true [next])
  have o4 := oneB_len (decide (0 ≤ med)) 128 4 (numsB true [mm])
  have o5 := oneB_len (decide (0 ≤ pref)) 64 5 (numsB true [mp])
  have o6 := oneB_len atomic 64 6 []
  have o7 := oneB_len has 192 7 (aggrB wide sa ad)
  have o8 := oneB_len (decide (0 < comms.length)) 192 8 (numsB true comms)
  have o9 := oneB_len (!wide && bigs (flatN path)) 192 17 (putB true path)
  have o10 := oneB_len (!wide && bigB sa) 192 18 (aggrB true sa ad)
  unfold putA
  simp only [List.length_append, List.length_cons, List.length_nil] at *
  omega
/-- Attributes that may be, put wide: what is read of it is the same. -/
theorem back_all (a : Av) (w : World) (ht : TabK w) (ha : AvArg w a) (hok : a.okB = true) (N : Nat) (hN : a.next = (N : Int)) (hnb : nextB N = true) :
    ∃ (d : List UInt8) (Sf : Rs), (∀ W, Below w.heap.size w W → Calls Tryz.prog 44 #[.agg a.row.toArray, .bool true] W (RetPut W d)) ∧ RunK (fun _ => true) true d rs0 Sf ∧ d.length ≤ 100000 ∧
      ∀ x : Av, x.org = (Sf.org : Int) → x.path.map Sg.abs = Sf.path → x.next = (Sf.next : Int) → x.med = Sf.med → x.pref = Sf.pref → x.atomic = Sf.atomic → x.has = Sf.has → x.aas = (Sf.aas : Int) → x.aad = (Sf.aad : Int) → x.comms = Sf.comms → x.raws.map Rw.abs = Sf.raws → x.same a = true ∧ x.path.length = a.path.length ∧ x.raws.length = a.raws.length := by
  obtain ⟨h1, h2, hr, h3, h4, h5, h6, hha, h7, h8, h9⟩ := okB_all hok
  have hre := raws_small a.raws (-1) h8
  obtain ⟨hin, hcm, hfit, _, hnx, haa, had, _, _, _⟩ := ha
  obtain ⟨org, pa, pc, path, next, med, pref, atomic, has, aas, aad, ca, cc, comms, ra, rc, raws⟩ := a
  dsimp only at h1 h2 hr h3 h4 h5 h6 hha h7 h8 h9 hre hcm hfit hnx haa had hN
  obtain ⟨O, rfl⟩ := Int.eq_ofNat_of_zero_le h1
  obtain ⟨SA, rfl⟩ := Int.eq_ofNat_of_zero_le haa.1
  obtain ⟨AD, rfl⟩ := Int.eq_ofNat_of_zero_le had.1
  subst hN
  obtain ⟨mm, hwm, hmm, hm2⟩ := u32_wrap_of med h5
  obtain ⟨mp, hwp, hmp, hp2⟩ := u32_wrap_of pref h6
  obtain ⟨ks, n, hrun⟩ := back4 O N SA AD path med pref mm mp atomic has comms raws true (by omega) hr (fun s hs => (hfit s hs).1) hnb (by omega) h5.1 hm2 hmm h6.1 hp2 hmp (fun e => by have := hha e; omega) (by omega) (by omega) h7 hcm h8 h9
  refine ⟨_, _, fun W q => PutA_ok O N SA AD pa pc path med pref atomic has ca cc comms ra rc raws mm mp true W (ht.below q ht.lt) ((hin.below q (Nat.le_refl _)).lift q.size) hok (by omega) (by omega) (by omega) (by omega) hwm hmm hwp hmp (by omega) (by omega) (by omega) hcm (by omega) hre, ⟨n, Runs.all n _ _ _ hrun⟩, putA_small _ _ _ _ _ _ _ _ _ _ _ _ _ h3 h4 h7 h9 hre true, ?_⟩
  intro x e1 e2 e3 e4 e5 e6 e7 e8 e9 e10 e11
  have hpath : path.map (narS true) = path.map Sg.abs := List.map_congr_left fun s _ => by
    unfold narS Sg.abs
    rw [show s.nums.map (nar true) = s.nums from by rw [show nar true = id from funext nar_wide]; exact List.map_id _]
  dsimp only at e1 e2 e3 e4 e5 e6 e7 e8 e9 e10 e11
  rw [hpath] at e2
  rw [nar_wide] at e8
  refine ⟨?_, by have := congrArg List.length e2; simpa using this, by have := congrArg List.length e11; simpa using this⟩
  unfold Av.same sameP sameRs
  dsimp only
  rw [e1, e3, e4, e5, e6, e7, e8, e9, e10, decide_eq_true e2, decide_eq_true e11]
  simp [sameZ]
theorem below_two7 {w w1 w2 : World} (h : Below w.heap.size w w1) (k : Below w1.heap.size w1 w2) : Below w.heap.size w w2 := h.trans (k.mono h.size)
end Go.Proofs.YtbfbnoonegdlgaaGreatDoor

/-
  Attributes that are put wide are read as they were: both Puts, and which kinds there are.
-/
namespace Go.Proofs.YtbfbnoonegdlgaaGreatDoor
set_option linter.unusedVariables false
set_option linter.unusedSimpArgs false
open Go.RowKit

theorem kinds_keep {ok : Nat → Bool} {wide : Bool} {k : Nat} : ∀ (n : Nat) (l : List UInt8) (S Sf : Rs), runK ok wide n l S Sf → k ∈ S.kinds → k ∈ Sf.kinds := by
  intro n
  induction n with
  | zero => intro l S Sf h hk; rw [← h.2]; exact hk
  | succ n ih =>
    intro l S Sf h hk
    rcases h with ⟨_, h⟩ | ⟨_, _, _, T, hs, h⟩
    · rw [← h]; exact hk
    · exact ih _ _ _ h (by rw [(step_kinds hs).2]; exact List.mem_append_left _ hk)
theorem step_p5 {wide : Bool} {S T : Rs} {p : Pa} (h : stepF wide S p = some T) (hc : S.pref ≠ -1 → 5 ∈ S.kinds) : T.pref ≠ -1 → 5 ∈ T.kinds := by
  have hk := (step_kinds h).2
  intro hn
  rw [hk]
  by_cases h5 : p.kind = 5
  · rw [h5]; simp
  · have e : T.pref = S.pref := by
      unfold stepF at h
      split at h
      · cases h
      · obtain ⟨U, hU, rfl⟩ := Option.map_eq_some_iff.1 h
        show U.pref = S.pref
        revert hU
        split <;> intro hU
        all_goals first
          | exact absurd (by assumption) h5
          | (split at hU <;> first | (cases hU; rfl) | cases hU | (split at hU <;> first | (cases hU; rfl) | cases hU) | (obtain ⟨r, _, rfl⟩ := Option.map_eq_some_iff.1 hU; rfl))
    rw [e] at hn
    exact List.mem_append_left _ (hc hn)
theorem pref_run {ok : Nat → Bool} {wide : Bool} : ∀ (n : Nat) (l : List UInt8) (S Sf : Rs), runK ok wide n l S Sf → (S.pref ≠ -1 → 5 ∈ S.kinds) → Sf.pref ≠ -1 → 5 ∈ Sf.kinds := by
  intro n
  induction n with
  | zero => intro l S Sf h hk; rw [← h.2]; exact hk
  | succ n ih =>
    intro l S Sf h hk
    rcases h with ⟨_, h⟩ | ⟨_, _, _, T, hs, h⟩
    · rw [← h]; exact hk
    · exact ih _ _ _ h (step_p5 hs hk)
theorem run_one {ok : Nat → Bool} {wide : Bool} {f k : Nat} {v r : List UInt8} {S Sf : Rs} (h : RunK ok wide (wholeL f k v ++ r) S Sf) (hf : f = 64 ∨ f = 128 ∨ f = 192 ∨ f = 224) (hk : k < 256) (hv : v.length < 65536) :
    ∃ T, k ∈ T.kinds ∧ RunK ok wide r T Sf := by
  have hne : ¬ (wholeL f k v ++ r = []) := by unfold wholeL; split <;> simp
  obtain ⟨_, _, T, hs, h2⟩ := h.step hne
  obtain ⟨f', _, he⟩ := nextA_whole (r := r) hf hk hv
  rw [he] at hs h2
  exact ⟨T, by rw [(step_kinds hs).2]; simp, h2⟩
theorem kinds3 {ok : Nat → Bool} {wide : Bool} {v1 v2 v3 r : List UInt8} {S Sf : Rs} (h : RunK ok wide (wholeL 64 1 v1 ++ (wholeL 64 2 v2 ++ (wholeL 64 3 v3 ++ r))) S Sf) (h1 : v1.length < 65536) (h2 : v2.length < 65536) (h3 : v3.length < 65536) :
    1 ∈ Sf.kinds ∧ 2 ∈ Sf.kinds ∧ 3 ∈ Sf.kinds := by
  obtain ⟨T1, k1, r1⟩ := run_one h (.inl rfl) (by decide) h1
  obtain ⟨T2, k2, r2⟩ := run_one r1 (.inl rfl) (by decide) h2
  obtain ⟨T3, k3, r3⟩ := run_one r2 (.inl rfl) (by decide) h3
  obtain ⟨n1, r1⟩ := r1
  obtain ⟨n2, r2⟩ := r2
  obtain ⟨n3, r3⟩ := r3
  exact ⟨kinds_keep _ _ _ _ r1 k1, kinds_keep _ _ _ _ r2 k2, kinds_keep _ _ _ _ r3 k3⟩
theorem kinds_len {ok : Nat → Bool} {wide : Bool} : ∀ (n : Nat) (l : List UInt8) (S Sf : Rs), runK ok wide n l S Sf → Sf.kinds.length ≤ S.kinds.length + l.length := by
  intro n
  induction n with
  | zero => intro l S Sf h; rw [← h.2]; omega
  | succ n ih =>
    intro l S Sf h
    rcases h with ⟨_, h⟩ | ⟨hl, _, _, T, hs, h⟩
    · rw [← h]; omega
    · have h1 := ih _ _ _ h
      have h2 := next_less hl
      rw [(step_kinds hs).2, List.length_append] at h1
      simp only [List.length_cons, List.length_nil] at h1
      omega
theorem putA_tiny5 (org next sa ad : Nat) (path : List Sg) (med pref : Int) (mm mp : Nat) (atomic has : Bool) (comms : List Nat) (raws : List Rw) (h3 : path.length ≤ 8) (h4 : totN path ≤ 64) (h5 : comms.length ≤ 32) (h6 : raws.length ≤ 8) (h7 : ∀ s ∈ raws, s.data.length ≤ 64) (wide : Bool) :
    (putA org next sa ad path med pref mm mp atomic has comms raws wide).length ≤ 5000 := by
  have p1 := putB_len wide path
  have p2 := putB_len true path
  have q1 := numsB_len true [next]
  have q2 := numsB_len true [mm]
  have q3 := numsB_len true [mp]
  have q4 := numsB_len true comms
  have q5 := aggrB_len wide sa ad
  have q6 := aggrB_len true sa ad
  have q7 := rawsB_len raws h7
  have o1 := oneB_len true 64 1 [UInt8.ofNat org]
  have o2 := oneB_len true 64 2 (putB wide path)
  have o3 := oneB_len true 64 3 (numsB true [next])
  have o4 := oneB_len (decide (0 ≤ med)) 128 4 (numsB true [mm])
  have o5 := oneB_len (decide (0 ≤ pref)) 64 5 (numsB true [mp])
  have o6 := oneB_len atomic 64 6 []
  have o7 := oneB_len has 192 7 (aggrB wide sa ad)
  have o8 := oneB_len (decide (0 < comms.length)) 192 8 (numsB true comms)
  have o9 := oneB_len (!wide && bigs (flatN path)) 192 17 (putB true path)
  have o10 := oneB_len (!wide && bigB sa) 192 18 (aggrB true sa ad)
  unfold putA
  simp only [List.length_append, List.length_cons, List.length_nil] at *
  omega
set_option maxHeartbeats 1600000 in
/-- Attributes that may be, put wide: what is read of it is the same. -/
theorem back_all5 (a : Av) (w : World) (ht : TabK w) (ha : AvArg w a) (hok : a.okB = true) (N : Nat) (hN : a.next = (N : Int)) (hnb : nextB N = true) :
    ∃ (d : List UInt8) (Sf : Rs), (∀ W, Below w.heap.size w W → Calls Tryz.prog 44 #[.agg a.row.toArray, .bool true] W (RetPut W d) ∧ Calls Tryz.prog 23 #[.agg a.row.toArray, .bool true] W (RetPut W d)) ∧ RunK (fun _ => true) true d rs0 Sf ∧ d.length ≤ 5000 ∧ (1 ∈ Sf.kinds ∧ 2 ∈ Sf.kinds ∧ 3 ∈ Sf.kinds) ∧ (0 ≤ a.pref → 5 ∈ Sf.kinds) ∧
      ∀ x : Av, x.org = (Sf.org : Int) → x.path.map Sg.abs = Sf.path → x.next = (Sf.next : Int) → x.med = Sf.med → x.pref = Sf.pref → x.atomic = Sf.atomic → x.has = Sf.has → x.aas = (Sf.aas : Int) → x.aad = (Sf.aad : Int) → x.comms = Sf.comms → x.raws.map Rw.abs = Sf.raws → x.same a = true ∧ x.path.length = a.path.length ∧ x.raws.length = a.raws.length := by
  obtain ⟨h1, h2, hr, h3, h4, h5, h6, hha, h7, h8, h9⟩ := okB_all hok
  have hre := raws_small a.raws (-1) h8
  have hre2 := raws_facts a.raws (-1) (Int.le_refl _) h8
  have hR := fun (W : World) (q : Below w.heap.size w W) => RefRight4_any a W ((ha.inn.below q (Nat.le_refl _)).lift q.size) (by omega) (by omega) (by omega)
  rw [hok] at hR
  obtain ⟨hin, hcm, hfit, _, hnx, haa, had, _, _, _⟩ := ha
  obtain ⟨org, pa, pc, path, next, med, pref, atomic, has, aas, aad, ca, cc, comms, ra, rc, raws⟩ := a
  dsimp only at h1 h2 hr h3 h4 h5 h6 hha h7 h8 h9 hre hre2 hcm hfit hnx haa had hN
  obtain ⟨O, rfl⟩ := Int.eq_ofNat_of_zero_le h1
  obtain ⟨SA, rfl⟩ := Int.eq_ofNat_of_zero_le haa.1
  obtain ⟨AD, rfl⟩ := Int.eq_ofNat_of_zero_le had.1
  subst hN
  obtain ⟨mm, hwm, hmm, hm2⟩ := u32_wrap_of med h5
  obtain ⟨mp, hwp, hmp, hp2⟩ := u32_wrap_of pref h6
  obtain ⟨ks, n, hrun⟩ := back4 O N SA AD path med pref mm mp atomic has comms raws true (by omega) hr (fun s hs => (hfit s hs).1) hnb (by omega) h5.1 hm2 hmm h6.1 hp2 hmp (fun e => by have := hha e; omega) (by omega) (by omega) h7 hcm h8 h9
  have hlp : (putB true path).length < 65536 := by
    have := putB_len true path
    omega
  have hK : RunK (fun _ => true) true (putA O N SA AD path med pref mm mp atomic has comms raws true) rs0 _ := ⟨n, Runs.all n _ _ _ hrun⟩
  have hK3 := hK
  have h1b : ∀ (f k : Nat) (v : List UInt8), oneB true f k v = wholeL f k v := fun f k v => if_pos rfl
  unfold putA at hK3
  simp only [List.nil_append, List.append_assoc, h1b] at hK3
  refine ⟨_, _, fun W q => ⟨PutA_ok O N SA AD pa pc path med pref atomic has ca cc comms ra rc raws mm mp true W (ht.below q ht.lt) ((hin.below q (Nat.le_refl _)).lift q.size) hok (by omega) (by omega) (by omega) (by omega) hwm hmm hwp hmp (by omega) (by omega) (by omega) hcm (by omega) hre, RefPut4_ok O N SA AD pa pc path med pref atomic has ca cc comms ra rc raws mm mp true W ((hin.below q (Nat.le_refl _)).lift q.size) (fun W' q' => hR W' (q.trans (q'.mono q.size))) (by omega) (by omega) (by omega) (by omega) hwm hmm hwp hmp (by omega) (by omega) (by omega) hcm (by omega) hre2⟩, hK, putA_tiny5 _ _ _ _ _ _ _ _ _ _ _ _ _ h3 h4 h7 h9 hre true, kinds3 hK3 (by show 1 < 65536; decide) hlp (by have h : (numsB true [N]).length ≤ 4 * 1 := numsB_len true [N]; exact Nat.lt_of_le_of_lt h (by decide)), fun h0 => pref_run n _ _ _ (Runs.all n _ _ _ hrun) (fun h => absurd rfl h) (by have h1 : 0 ≤ pref := h0; show pref ≠ -1; omega), ?_⟩
  intro x e1 e2 e3 e4 e5 e6 e7 e8 e9 e10 e11
  have hpath : path.map (narS true) = path.map Sg.abs := List.map_congr_left fun s _ => by
    unfold narS Sg.abs
    rw [show s.nums.map (nar true) = s.nums from by rw [show nar true = id from funext nar_wide]; exact List.map_id _]
  dsimp only at e1 e2 e3 e4 e5 e6 e7 e8 e9 e10 e11
  rw [hpath] at e2
  rw [nar_wide] at e8
  refine ⟨?_, by have := congrArg List.length e2; simpa using this, by have := congrArg List.length e11; simpa using this⟩
  unfold Av.same sameP sameRs
  dsimp only
  rw [e1, e3, e4, e5, e6, e7, e8, e9, e10, decide_eq_true e2, decide_eq_true e11]
  simp [sameZ]
end Go.Proofs.YtbfbnoonegdlgaaGreatDoor
